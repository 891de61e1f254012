/- Package room: Even. The reference of layer 14: Lowest. The reference of layer 14: Even. -/
import Derived.Test.YtpiolhjiflohgaaYl
import Derived.Test.YtpiolhjiflohgaaYf
import Derived.BigRegion
import Derived.Deep.RegionHeld3
import Derived.Test.YtpiolhjiflohgaaYh
import Derived.Test.YtpiolhjiflohgaaYm
import Derived.Test.YtpiolhjiflohgaaYi
namespace Go.Proofs.Ytpiolhjiflohgaa
open Go.RowKit
theorem BK.grown {W W' : World} {g : Nat} {l : List Value} {row : Option Nat} (h : BK W g l) (hg : W.grownBy W' row) (hne : row ≠ some g) : BK W' g l := by
  have hlt := h.lt
  have hb := hg.block g hlt hne.symm
  refine ⟨Nat.lt_of_lt_of_le hlt hg.size, fun j x e => ?_⟩
  have := BK.c h j e
  have h2 := BK.f h j e
  unfold World.cell? at this ⊢
  unfold World.frozen? at h2 ⊢
  dsimp only at this h2 ⊢
  rw [hb]
  exact ⟨this, h2⟩
set_option maxHeartbeats 2000000 in
theorem asPrices2_any (A : Option Addr) (cv : Nat) (V : List (List Int)) (w : World) (hc : As.chk V = 0) (hl : V.length ≤ maxLen) (h : IsM w A V) :
    Calls Try.prog 41 #[.slice A V.length cv] w fun e w' => ∃ g, e = .returned (.tuple #[.slice (some ⟨g, 0, none⟩) V.length V.length, .int .i64 0]) ∧ w.heap.size ≤ g ∧ BF w' g V.length (As.el (As.lp V (As.bst V))) ∧ Below w.heap.size w w' := by
  have CK := asCheck_any A cv V w hl h
  have ok := As.chk_ok hc
  have ht := As.bst_top ok
  rw [hc] at CK
  have CF := Lib.hid (fun v (hv : Below w.heap.size w v) => firstBest_any A cv V v ok (h.keep hv))
  have CV := Lib.hid (fun v B c (hv : Below w.heap.size w v) (hI : IsI v B (As.al (As.bst V))) => leastPrices_any A cv V B c (As.bst V) v ok ht (h.keep hv) hI)
  have CK' := Lib.hid CK
  clear CK hc ok ht h
  go_enter Try.func41, Try.ntmps41
  go_wp2_with fail
  refine CK'.out.mono ?_
  rintro e w1 ⟨rfl, hb1⟩
  go_wp2_with fail
  refine (CF.out _ hb1).mono ?_
  rintro e w2 ⟨B, c, rfl, hI, hb2⟩
  have hbb := keepB hb1 hb2
  have CV' := Lib.hid (CV.out w2 B c hbb hI)
  clear hb1 hb2 hI CV
  go_wp2_with fail
  refine CV'.out.mono ?_
  rintro e w3 ⟨rfl, hbf, hb3⟩
  have hbb3 := keepB hbb hb3
  have HI3 := Lib.hid hbf
  have hsz := hbb.size
  clear hb3 hbb hbf CV'
  go_wp2_with fail
  go_ret2
  exact ⟨_, rfl, hsz, HI3.out, hbb3⟩
namespace As
theorem lp_sum {V : List (List Int)} (ok : Ok V) : 0 ≤ sm (el (lp V (bst V))) (List.range V.length) ∧ sm (el (lp V (bst V))) (List.range V.length) ≤ 6000000 := by
  have ht := bst_top ok
  have n1 := ok.n1
  have n6 := ok.n6
  have h := sm_bd (f := el (lp V (bst V))) (M := 1000000) V.length fun k hk => ⟨lp_nn ht k, lp_bound ht (by omega) ok.bd hk⟩
  have : (V.length : Int) * 1000000 ≤ 6 * 1000000 := Int.mul_le_mul_of_nonneg_right (by omega) (by omega)
  omega
theorem den_le {c n : Int} (h : 1 ≤ n) : 1 ≤ ((Rp.q c n).den : Int) ∧ ((Rp.q c n).den : Int) ≤ n := by
  obtain ⟨h1, h2, _⟩ := Rp.q_num_den (a := c) h
  exact ⟨h1, Int.le_of_dvd (by omega) (Int.dvd_of_emod_eq_zero h2)⟩
end As
set_option maxRecDepth 100000 in
set_option maxHeartbeats 8000000 in
theorem rmEven_any (A : Option Addr) (cv : Nat) (V : List (List Int)) (R : Int) (w : World) (hl : V.length ≤ maxLen) (h : IsM w A V) :
    Calls Try.prog 11 #[.agg #[.slice A V.length cv, .int .i64 R]] w (EvQ V R w) := by
  have CK := fun v (hv : Below w.heap.size w v) => rmCheck_any A cv V R v hl (h.keep hv)
  rcases As.rchk_two V R with ⟨h0, hc, r0, r1⟩ | ⟨h1, h2⟩
  · rw [h0] at CK
    have ok := As.chk_ok hc
    have ht := As.bst_top ok
    have n1 := ok.n1
    have n6 := ok.n6
    obtain ⟨ER1, ER2⟩ := As.even_rd (V := V) (b := As.bst V) (R := R) n1
    obtain ⟨SB1, SB2⟩ := As.lp_sum ok
    have hEO := (As.even_ok ok ht r0 r1).1
    have e1 : As.evA V R = As.bst V := by unfold As.evA; rw [if_pos h0]
    have e2 : As.evP V R = As.rdp V.length (As.evp V (As.bst V) R) := by unfold As.evP; rw [if_pos h0]
    have e3 : As.evD V R = As.rdd V.length (As.evp V (As.bst V) R) := by unfold As.evD; rw [if_pos h0]
    have HF := Lib.hid (show ∀ X c g d w', IsI w' X (As.al (As.bst V)) → BF w' g V.length (As.el (As.evP V R)) → Below w.heap.size w w' → EvQ V R w (.returned (.tuple #[.agg #[.slice X V.length c, .slice (some ⟨g, 0, none⟩) V.length d, .int .i64 (As.evD V R)], .int .i64 0])) w' from fun X c g d w' hI hf hb =>
      ⟨X, c, some ⟨g, 0, none⟩, d, by rw [h0, e1, e2, ht.len, As.rdp_len], by rw [e1]; exact hI, by
        have hI2 := hf.isI (fun j hj => by
          have := As.pr_bd hEO hj
          rw [e2]; unfold I64; omega)
        unfold ml at hI2
        rwa [As.ml_el (by rw [e2, As.rdp_len])] at hI2, hb⟩)
    have CB := Lib.hid (fun v (hv : Below w.heap.size w v) => asBest2_any A cv V v hc hl (h.keep hv))
    have CP := Lib.hid (fun v (hv : Below w.heap.size w v) => asPrices2_any A cv V v hc hl (h.keep hv))
    have CS := Lib.hid (fun v g c (hf : BF v g V.length (As.el (As.lp V (As.bst V)))) => rmSum_any (some ⟨g, 0, none⟩) c (As.lp V (As.bst V)) V.length (As.lp_len ht) n6 (fun j hj => by have := As.lp_nn ht j; have := As.lp_bound ht (by omega) ok.bd hj; omega) v (by
      have hI2 := hf.isI (fun j hj => by have := As.lp_nn ht j; have := As.lp_bound ht (by omega) ok.bd hj; unfold I64; omega)
      unfold ml at hI2
      rwa [As.ml_el (As.lp_len ht)] at hI2))
    have HPB := Lib.hid (fun j hj => (show 0 ≤ As.el (As.lp V (As.bst V)) j ∧ As.el (As.lp V (As.bst V)) j ≤ 1000000 from ⟨As.lp_nn ht j, As.lp_bound ht (by omega) ok.bd hj⟩))
    obtain ⟨D1, D2⟩ := As.den_le (c := R - As.sm (As.el (As.lp V (As.bst V))) (List.range V.length)) (n := V.length) (by omega)
    obtain ⟨_, _, N1, N2, _⟩ := Rp.q_ok (a := R - As.sm (As.el (As.lp V (As.bst V))) (List.range V.length)) (n := V.length) (by omega) (by omega) (by omega) (by omega)
    have CPT := Lib.hid (fun v => rmPart_any (R - As.sm (As.el (As.lp V (As.bst V))) (List.range V.length)) V.length (by omega) (by omega) (by omega) (by omega) v)
    have CK' := Lib.hid CK
    rw [← e3] at ER1
    simp only [← e2] at ER2
    generalize As.sm (As.el (As.lp V (As.bst V))) (List.range V.length) = S at *
    rw [← ER1] at D1 D2
    simp only [← ER1] at CPT ER2
    generalize As.evD V R = dn at *
    generalize (Rp.q (R - S) V.length).num = nm at *
    have HER2 := Lib.hid ER2
    have hwS : IntKind.i64.wrap (R - S) = R - S := IntWalk.i64_in _ (by omega)
    have HWS := Lib.hid hwS
    clear CK h0 hc ok ht e1 e2 e3 ER1 ER2 hEO h hwS
    generalize As.el (As.lp V (As.bst V)) = p at *
    go_enter Try.func11, Try.ntmps11
    go_upto_region 1 with fail
    refine at_box2 (fun V0 hbb b0 b1 hsz => ?_)
    clear hsz
    have c0 := b0.c 0 rfl
    have c1 := b0.c 1 rfl
    go_wp2_with fail
    refine (CK'.out _ hbb).mono ?_
    rintro e w1 ⟨rfl, hb1⟩
    replace c0 := keepC hb1 c0
    replace c1 := keepC hb1 c1
    replace b1 := b1.keep hb1
    replace hbb := keepB hbb hb1
    clear hb1 b0
    go_wp2_with fail
    refine (CB.out _ hbb).mono ?_
    rintro e w2 ⟨X, cX, rfl, hI, hfr, hb1⟩
    have HI := Lib.hid hI
    have hb1l := b1.lt
    have HFR := Lib.hid (show ∀ b off, X = some ⟨b, off, none⟩ → w.heap.size + 1 ≠ b from fun b off e => by have := hfr b off e; omega)
    clear hb1l
    replace c0 := keepC hb1 c0
    replace c1 := keepC hb1 c1
    have B1 := Lib.hid (b1.keep hb1)
    replace hbb := keepB hbb hb1
    generalize As.wr V (As.bst V) = z at *
    clear hb1 hI b1 hfr
    go_wp2_with fail
    refine (CP.out _ hbb).mono ?_
    rintro e w3 ⟨g, rfl, hg, hbf, hb1⟩
    have C1 := Lib.hid (keepC hb1 c1)
    have HBB := Lib.hid hbb
    have HW3 := Lib.hid hb1
    have HBF := Lib.hid hbf
    have hgl := hbf.lt
    have hq := lt_of_cell C1.out
    clear hb1 c0 c1 hbb hbf CK' CB CP
    go_upto_region 6 with fail
    have hws := HWS.out
    go_cut [10] (fun x v => ∃ q : Nat, x = .pointer (some ⟨q, 0, none⟩) ∧ w3.heap.size ≤ q ∧ BK v q [.int .i64 nm, .int .i64 dn] ∧ Below w3.heap.size w3 v)
    case first =>
      have hB0 := Below.refl w3.heap.size w3
      have HK := Lib.hid (fun v (hv : Below w3.heap.size w3 v) => (show v.cell? ⟨w.heap.size, 1, none⟩ = some (.int .i64 R) ∧ True from ⟨keepC hv C1.out, trivial⟩))
      go_region_held3 (fun v => v.cell? ⟨w.heap.size, 1, none⟩ = some (.int .i64 R) ∧ True)
        (first | (exact HK.out _ (by assumption)) | (exact HK.out _ (Below.drew (by assumption))) | (exact HK.out _ (below_al (by assumption) _)) | (exact HK.out _ (below_al (Below.drew (by assumption)) _)) | (exact ⟨cell_far (cell_far (keepC hw5 C1.out) (by omega) _) (by omega) _, trivial⟩))
        (first
          | (go_at_call 43; refine (CS.out _ g V.length (by first | exact HBF.out | exact HBF.out.drew | exact HBF.out.al _ | exact HBF.out.drew.al _)).mono ?_; rintro e w5 ⟨rfl, rfl⟩)
          | (go_at_call 42; refine (CPT.out _).mono ?_; rintro e w5 ⟨rfl, hb5⟩; have hw5 : Below w3.heap.size w3 w5 := (by first | exact keepB hB0 hb5 | exact keepB hB0.drew hb5 | exact keepB (below_al hB0 _) hb5 | exact keepB (below_al hB0.drew _) hb5); (first | (have nbk : BK w5 w3.heap.size [.int .i64 0, .int .i64 0] := (by first | exact (BK.new w3 [.int .i64 0, .int .i64 0] _).keep hb5 | exact (BK.new w3.drew [.int .i64 0, .int .i64 0] _).keep hb5); have nb0 := nbk.c 0 rfl; have nb1 := nbk.c 1 rfl; have nf0 := nbk.f 0 rfl; have nf1 := nbk.f 1 rfl) | skip)))
      all_goals
        go_wp2_with fail
        go_meet
        refine ⟨_, rfl, ?_, ?_, ?_⟩
        · first | exact Nat.le_refl _ | exact hw5.size
        · first | exact (nbk.set 0 _).set 1 _ | exact BK.new _ _ _
        · first | exact below_set (below_set hw5 (Nat.le_refl _) _) (Nat.le_refl _) _ | exact below_al hw5 _
    case rest =>
      clear hws
      obtain ⟨q, rfl, hgq, hbk, hb4⟩ := hcut
      have d1 := hbk.c 1 rfl
      have HB4 := Lib.hid (keepB HW3.out hb4)
      have HF4 := Lib.hid (HBF.out.keep hb4)
      have HK4 := Lib.hid hbk
      clear hbk hb4
      go_wp2_with fail
      clear d1
      go_loopw [44] (fun i W => ∃ k : Nat, k ≤ V.length ∧ i = .int .i64 k ∧ Hid (Below w2.heap.size w2 W) ∧ Hid (BF W g V.length (fun j => if j < k then p j * dn + nm else p j)) ∧ Hid (BK W q [.int .i64 nm, .int .i64 dn])) (fun i _ => V.length - (intOf i).toNat)
      case atStart => exact ⟨0, Nat.zero_le _, rfl, HB4, Lib.hid (HF4.out.cong fun j _ => by simp), HK4⟩
      case round =>
        obtain ⟨k, hk, rfl, HW, HFk, HQ⟩ := hrel
        by_cases hlt : k < V.length
        · have x1 := HFk.out.c hlt
          have x3 := HFk.out.f hlt
          rw [if_neg (Nat.lt_irrefl k)] at x1
          have y0 := HQ.out.c 0 rfl
          obtain ⟨p1, p2⟩ := HPB.out k hlt
          have HPK := Lib.hid (show ∀ y, p k * dn = y → BF (wr.setCell ⟨g, k, none⟩ (.int .i64 (y + nm))) g V.length (fun j => if j < k + 1 then p j * dn + nm else p j) from fun y hy => (HFk.out.set k _).cong fun j _ => by
            by_cases e : j = k
            · subst e; rw [if_pos rfl, if_pos (by omega), hy]
            · rw [if_neg e]
              by_cases e2 : j < k
              · rw [if_pos e2, if_pos (by omega)]
              · rw [if_neg e2, if_neg (by omega)])
          have m0 : 0 ≤ p k * dn := Int.mul_nonneg p1 (by omega)
          have m1 : p k * dn ≤ 1000000 * 6 := Int.mul_le_mul p2 (by omega) (by omega) (by omega)
          generalize p k = x at *
          obtain ⟨y, hy⟩ : ∃ y, x * dn = y := ⟨_, rfl⟩
          have HNEW := Lib.hid (HPK.out y hy)
          have a1 : IntKind.i64.wrap (x * dn) = y := by rw [IntWalk.i64_in _ (by omega)]; exact hy
          rw [hy] at m0 m1
          have a2 : IntKind.i64.wrap (y + nm) = y + nm := IntWalk.i64_in _ (by omega)
          have i1 : (k : Int) < (V.length : Int) := by omega
          have HGB := Lib.hid (show Below w2.heap.size w2 (wr.setCell ⟨g, k, none⟩ (.int .i64 (y + nm))) from HW.out.setCell hg _)
          have HQ2 := Lib.hid (HQ.out.far (q := g) (by omega) k (.int .i64 (y + nm)))
          clear hy HPK p1 p2
          go_wp2_with fail
          go_big_region
          clear a1 a2 x1 x3 y0
          go_wp2_with fail
          go_roundw
          case rel => exact ⟨k + 1, by omega, by go_num, Lib.hid HGB.out.drew, Lib.hid HNEW.out.drew, Lib.hid (HQ2.out.keep (Below.refl _ _).drew)⟩
          case measure => simp [intOf]; omega
        · obtain rfl : k = V.length := by omega
          have b1 := B1.out.keep HW.out
          have HFN := Lib.hid (HFk.out.cong (G := As.el (As.evP V R)) fun j hj => by rw [if_pos hj, HER2.out j hj])
          have HFIN := Lib.hid (fun v hI hf hb => HF.out X cX g V.length v hI hf hb)
          have bb := ((b1.set 0 (.slice X V.length cX)).set 1 (.slice (some ⟨g, 0, none⟩) V.length V.length)).set 2 (.int .i64 dn)
          have z0 := b1.c 0 rfl
          have z1 := b1.c 1 rfl
          have z2 := b1.c 2 rfl
          have f0 := b1.f 0 rfl
          have f1 := b1.f 1 rfl
          have f2 := b1.f 2 rfl
          have r0 := bb.c 0 rfl
          have r1 := bb.c 1 rfl
          have r2 := bb.c 2 rfl
          have HBW := Lib.hid (keepB HBB.out HW.out)
          have HIW := Lib.hid (show ∀ k1 u1 k2 u2 k3 u3, IsI (((wr.setCell ⟨w.heap.size + 1, k1, none⟩ u1).setCell ⟨w.heap.size + 1, k2, none⟩ u2).setCell ⟨w.heap.size + 1, k3, none⟩ u3) X (As.al (As.bst V)) from fun k1 u1 k2 u2 k3 u3 => by
            have hI := HI.out.keep HW.out
            refine ⟨fun h0 => ?_, hI.2⟩
            obtain ⟨b, off, e, hcs⟩ := hI.1 h0
            have hn := HFR.out b off e
            exact ⟨b, off, e, fun i hi => cell_far (cell_far (cell_far (hcs i hi) hn _) hn _) hn _⟩)
          have hne : w.heap.size + 1 ≠ g := by have := B1.out.lt; omega
          clear bb b1
          go_wp2_with fail
          exact bodyPost_ret (v := .tuple #[.agg #[.slice X V.length cX, .slice (some ⟨g, 0, none⟩) V.length V.length, .int .i64 dn], .int .i64 0]) (by simp [results, Try.results11, go_sem, r0, r1, r2]) rfl (HFIN.out _ (HIW.out _ _ _ _ _ _) (((HFN.out.far hne _ _).far hne _ _).far hne _ _) (((HBW.out.setCell (Nat.le_succ _) _).setCell (Nat.le_succ _) _).setCell (Nat.le_succ _) _))
  · have HQ := Lib.hid (show ∀ (w' : World), Below w.heap.size w w' → EvQ V R w (.returned (.tuple #[.agg #[.slice none 0 0, .slice none 0 0, .int .i64 0], .int .i64 (As.rchk V R)])) w' from fun w' hb => ⟨none, 0, none, 0, by unfold As.evA As.evP As.evD; rw [if_neg h2, if_neg h2, if_neg h2]; rfl, by unfold As.evA; rw [if_neg h2]; exact isI_nil _ _, by unfold As.evP; rw [if_neg h2]; exact isI_nil _ _, hb⟩)
    generalize As.rchk V R = c at *
    have CK' := Lib.hid CK
    clear CK h2 h hl
    go_enter Try.func11, Try.ntmps11
    go_upto_region 1 with fail
    refine at_box2 (fun V0 hbb b0 b1 hsz => ?_)
    clear hsz
    have c0 := b0.c 0 rfl
    have c1 := b0.c 1 rfl
    go_wp2_with fail
    refine (CK'.out _ hbb).mono ?_
    rintro e w1 ⟨rfl, hb1⟩
    replace b1 := b1.keep hb1
    replace hbb := keepB hbb hb1
    have bb := ((b1.set 0 (.slice none 0 0)).set 1 (.slice none 0 0)).set 2 (.int .i64 0)
    have z0 := b1.c 0 rfl
    have z1 := b1.c 1 rfl
    have z2 := b1.c 2 rfl
    have f0 := b1.f 0 rfl
    have f1 := b1.f 1 rfl
    have f2 := b1.f 2 rfl
    have r0 := bb.c 0 rfl
    have r1 := bb.c 1 rfl
    have r2 := bb.c 2 rfl
    have HBB := Lib.hid hbb
    clear hb1 b0 b1 bb c0 c1
    go_wp2_with fail
    exact bodyPost_ret (v := .tuple #[.agg #[.slice none 0 0, .slice none 0 0, .int .i64 0], .int .i64 c]) (by simp [results, Try.results11, go_sem, r0, r1, r2]) rfl (HQ.out _ (((HBB.out.setCell (Nat.le_succ _) _).setCell (Nat.le_succ _) _).setCell (Nat.le_succ _) _))
end Go.Proofs.Ytpiolhjiflohgaa
namespace Go.Proofs.Ytpiolhjiflohgaa
open Go.RowKit
namespace As
/-- Does d divide the denominator and the first ones? -/
def dB (den : Nat) (L : List Int) (d m : Nat) : Bool := decide (d ∣ den) && (List.range m).all (fun j => decide ((d : Int) ∣ el L j))
theorem dB_succ (den : Nat) (L : List Int) (d m : Nat) : dB den L d (m + 1) = (dB den L d m && decide ((d : Int) ∣ el L m)) := by
  unfold dB
  rw [List.range_succ, List.all_append]
  simp [Bool.and_assoc]
theorem dB_iff {den : Nat} {L : List Int} {d n : Nat} (hL : L.length = n) : dB den L d n = true ↔ dvs den L d := by
  unfold dB dvs
  simp only [Bool.and_eq_true, decide_eq_true_eq, List.all_eq_true, List.mem_range]
  constructor
  · rintro ⟨h1, h2⟩
    refine ⟨h1, fun x hx => ?_⟩
    obtain ⟨k, hk, rfl⟩ := List.mem_iff_getElem.1 hx
    have := h2 k (by omega)
    rwa [show el L k = L[k] by unfold el; simp [hk]] at this
  · rintro ⟨h1, h2⟩
    refine ⟨h1, fun j hj => ?_⟩
    rw [show el L j = L[j]'(by omega) by unfold el; simp [show j < L.length by omega]]
    exact h2 _ (List.getElem_mem _)
theorem tmod_fact {x d : Int} (hd : 0 < d) : -d < x.tmod d ∧ x.tmod d < d ∧ ((x.tmod d == 0) = decide (d ∣ x)) := by
  have h1 : -d < x.tmod d ∧ x.tmod d < d := by
    by_cases hx : 0 ≤ x
    · rw [Int.tmod_eq_emod_of_nonneg hx]
      have := Int.emod_nonneg x (show d ≠ 0 by omega)
      have := Int.emod_lt_of_pos x hd
      omega
    · have e : x.tmod d = -((-x) % d) := by rw [← Int.tmod_eq_emod_of_nonneg (by omega), Int.neg_tmod, Int.neg_neg]
      rw [e]
      have := Int.emod_nonneg (-x) (show d ≠ 0 by omega)
      have := Int.emod_lt_of_pos (-x) hd
      omega
  refine ⟨h1.1, h1.2, ?_⟩
  rw [Bool.eq_iff_iff, beq_iff_eq, decide_eq_true_eq]
  exact ⟨Int.dvd_of_tmod_eq_zero, Int.tmod_eq_zero_of_dvd⟩
theorem tdiv_fact {x d : Int} (h : d ∣ x) : x.tdiv d = x / d := Int.tdiv_eq_ediv_of_dvd h
theorem lws_hit {den : Nat} {L : List Int} {d : Nat} (h1 : 1 < d) (h : dvs den L d) : lws den L d = d := by
  obtain ⟨k, rfl⟩ : ∃ k, d = k + 1 := ⟨d - 1, by omega⟩
  simp only [lws]; rw [if_pos ⟨h1, h⟩]
theorem lws_miss {den : Nat} {L : List Int} {d : Nat} (h1 : 1 < d) (h : ¬ dvs den L d) : lws den L d = lws den L (d - 1) := by
  obtain ⟨k, rfl⟩ : ∃ k, d = k + 1 := ⟨d - 1, by omega⟩
  simp only [lws]; rw [if_neg (fun x => h x.2)]; simp
theorem div_one_map (L : List Int) : L.map (fun x => x / ((1 : Nat) : Int)) = L := by
  conv => rhs; rw [← List.map_id L]
  exact List.map_congr_left fun x _ => by simp
theorem take_map_succ {L : List Int} {f : Int → Int} {k : Nat} (h : k < L.length) : (L.take (k + 1)).map f = (L.take k).map f ++ [f (el L k)] := by
  rw [List.take_succ_eq_append_getElem h, List.map_append]
  simp [el, h]
end As
theorem ownG_drewN {W : World} {B : Nat} {e : TypeId} {sz n : Nat} {v : Value} {cs : List Value} (h : W.ownsRow B e sz v n cs) (k : Nat) : (W.drewN k).ownsRow B e sz v n cs :=
  World.ownsRow.kept (row := none) h ⟨rfl, rfl, rfl, Nat.le_refl _, fun _ _ _ => rfl⟩ (by
    rcases v.ownBlock with _ | g
    · exact .inl rfl
    · exact .inr (by simp))
/-- What Lowest gives. -/
def LoQ (A : Option Addr) (L : List Int) (den : Nat) (w : World) (e : Ending) (w' : World) : Prop :=
  ∃ X c, e = .returned (.tuple #[.slice X den c, .int .i64 ((den / As.gcl den L : Nat) : Int)]) ∧ IsI w' X (L.map fun x => x / ((As.gcl den L : Nat) : Int)) ∧ (X = A ∨ ∀ b off, X = some ⟨b, off, none⟩ → w.heap.size ≤ b) ∧ Below w.heap.size w w'
set_option maxRecDepth 100000 in
set_option maxHeartbeats 8000000 in
theorem r14Lowest_any (A : Option Addr) (cap : Nat) (L : List Int) (den : Nat) (w : World) (hL : L.length = den) (d1 : 1 ≤ den) (d6 : den ≤ 6) (hb : ∀ j, j < den → -100000000 ≤ As.el L j ∧ As.el L j ≤ 100000000) (h : IsI w A L) :
    Calls Try.prog 46 #[.slice A den cap, .int .i64 den] w (LoQ A L den w) := by
  have HG := Lib.hid (As.lws_gcl d1 L)
  have HB := Lib.hid hb
  have HH := Lib.hid h
  have HL := Lib.hid hL
  have HI64 := Lib.hid (show ∀ g : Nat, 1 ≤ g → ∀ x ∈ L.map (fun x => x / (g : Int)), I64 x from fun g hg x hx => by
    obtain ⟨y, hy, rfl⟩ := List.mem_map.1 hx
    obtain ⟨k, hk, rfl⟩ := List.mem_iff_getElem.1 hy
    have := hb k (by omega)
    rw [show As.el L k = L[k] by unfold As.el; simp [hk]] at this
    have h1 := Int.natAbs_ediv_le_natAbs L[k] (g : Int)
    unfold I64; omega)
  obtain ⟨i0, hi0, hz0, hz1, hz2⟩ := info_parts intInfo
  have HI := Lib.hid hi0
  have HI2 := Lib.hid hz0
  have HI3 := Lib.hid hz1
  have HI4 := Lib.hid hz2
  clear h hb hL hi0 hz0 hz1 hz2
  go_enter Try.func46, Try.ntmps46
  go_wp2_with fail
  go_loopw [6] (fun i W => ∃ d : Nat, 1 ≤ d ∧ d ≤ den ∧ i = .int .i64 d ∧ Hid (As.gcl den L = As.lws den L d) ∧ Hid (W = w)) (fun i _ => (intOf i).toNat)
  case atStart => exact ⟨den, d1, Nat.le_refl _, rfl, Lib.hid HG.out.symm, Lib.hid rfl⟩
  case round =>
    obtain ⟨d, hd1, hd2, rfl, HD, HW⟩ := hrel
    have hW := HW.out.symm
    subst hW
    by_cases hgt : 1 < d
    · have HIF := Lib.hid (As.dB_iff (den := den) (d := d) HL.out)
      have HSU := Lib.hid (As.dB_succ den L d)
      have HHIT := Lib.hid (fun h => @As.lws_hit den L d hgt h)
      have HMISS := Lib.hid (fun h => @As.lws_miss den L d hgt h)
      obtain ⟨m1, m2, m3⟩ := As.tmod_fact (x := (den : Int)) (d := (d : Int)) (by omega)
      rw [Int.tmod_eq_emod_of_nonneg (by omega)] at m3
      have HZ := Lib.hid (show As.dB den L d 0 = ((den : Int) % d == 0) by rw [m3]; unfold As.dB; simp [Int.ofNat_dvd])
      have nz : ¬ (d : Int) = 0 := by omega
      have nz' : ¬ d = 0 := by omega
      have nzb : ((d : Int) == 0) = false := by rw [beq_eq_false_iff_ne]; omega
      clear m1 m2 m3
      go_wp2_with fail
      go_loopw [7, 8] (fun z i W => ∃ m : Nat, m ≤ den ∧ i = .int .i64 m ∧ z = .bool (As.dB den L d m) ∧ Hid (W = w)) (fun _ i _ => den - (intOf i).toNat)
      case atStart => exact ⟨0, Nat.zero_le _, rfl, by rw [HZ.out], Lib.hid rfl⟩
      case round =>
        obtain ⟨m, hm, rfl, rfl, HW2⟩ := hrel
        have hW2 := HW2.out.symm
        subst hW2
        by_cases hlt : m < den
        · obtain ⟨bb, bo, hAe, hcs⟩ := list_at HH.out (j := m) (by rw [HL.out]; exact hlt)
          have x0 := hcs m (by rw [HL.out]; exact hlt)
          obtain ⟨q1, q2⟩ := HB.out m hlt
          obtain ⟨n1, n2, n3⟩ := As.tmod_fact (x := As.el L m) (d := (d : Int)) (by omega)
          have HS := Lib.hid (HSU.out m)
          subst hAe
          generalize As.el L m = x at *
          clear hcs
          cases hz : As.dB den L d m with
          | false =>
            have HZF := Lib.hid hz
            clear hz
            go_wp2_with fail
            go_roundw
            case rel => exact ⟨m + 1, by omega, by go_num, by rw [HS.out, HZF.out]; rfl, by first | exact Lib.hid rfl | exact Lib.hid trivial⟩
            case measure => simp [intOf]; omega
          | true =>
            have HZF := Lib.hid hz
            have HN3 := Lib.hid n3
            clear hz n3
            go_wp2_with fail
            go_roundw
            case rel => exact ⟨m + 1, by omega, by go_num, by rw [HS.out, HZF.out, ← HN3.out]; rfl, by first | exact Lib.hid rfl | exact Lib.hid trivial⟩
            case measure => simp [intOf]; omega
        · obtain rfl : m = den := by omega
          cases hz : As.dB m L d m with
          | false =>
            have HND := Lib.hid (HMISS.out (fun h => by have := HIF.out.2 h; rw [hz] at this; cases this))
            clear hz
            go_wp2_with fail
            go_roundw
            case rel => exact ⟨d - 1, by omega, by omega, by go_num, Lib.hid (HD.out.trans HND.out), by first | exact Lib.hid rfl | exact Lib.hid trivial⟩
            case measure => simp [intOf]; omega
          | true =>
            have hdv := HIF.out.1 hz
            have hg := HD.out.trans (HHIT.out hdv)
            have HF := Lib.hid (show ∀ X c w', Own w' w.heap.size (.slice X m c) (L.map fun x => x / (d : Int)) → Below w.heap.size w w' → LoQ A L m w (.returned (.tuple #[.slice X m c, .int .i64 ((m : Int) / (d : Int))])) w' from fun X c w' hO hb => ⟨X, c, by rw [hg, Int.natCast_ediv], by
              rw [hg]
              exact Own.isI (n := m) (B := w.heap.size) (cap := c) (by unfold Own at hO ⊢; exact hO) (HI64.out d hd1), .inr (fun b off e => by
              subst e
              exact (Own.lt hO b rfl).1), hb⟩)
            have HQ := Lib.hid (fun k (hk : k < m) => (show (d : Int) ∣ As.el L k from by
              rw [show As.el L k = L[k]'(by rw [HL.out]; exact hk) by unfold As.el; simp [show k < L.length by rw [HL.out]; exact hk]]
              exact hdv.2 _ (List.getElem_mem _)))
            have HTL := Lib.hid (show (L.take m).map (fun x => x / (d : Int)) = L.map fun x => x / (d : Int) by rw [← HL.out, List.take_length])
            clear hz hdv hg HD HIF HSU HHIT HMISS HG
            go_wp2_with fail
            go_loopw [9, 10] (fun v i W => ∃ k : Nat, k ≤ m ∧ i = .int .i64 k ∧ Hid (Below w.heap.size w W) ∧ Hid (Own W w.heap.size v ((L.take k).map fun x => x / (d : Int)))) (fun _ i _ => m - (intOf i).toNat)
            case atStart => exact ⟨0, Nat.zero_le _, rfl, Lib.hid (Below.refl _ _), Lib.hid (by simpa using Own.nil_ _ _)⟩
            case round =>
              obtain ⟨k, hk, rfl, HW3, HO⟩ := hrel
              by_cases hlt : k < m
              · obtain ⟨bb, bo, hAe, hcs⟩ := list_at HH.out (j := k) (by rw [HL.out]; exact hlt)
                have x0 := keepC HW3.out (hcs k (by rw [HL.out]; exact hlt))
                obtain ⟨q1, q2⟩ := HB.out k hlt
                have hq := As.tdiv_fact (HQ.out k hlt)
                have HS := Lib.hid (As.take_map_succ (L := L) (f := fun x => x / (d : Int)) (k := k) (by rw [HL.out]; exact hlt))
                have HLEN := Lib.hid (show ((L.take k).map fun x => x / (d : Int)).length = k by rw [List.length_map, List.length_take, HL.out]; omega)
                have hab := Int.natAbs_ediv_le_natAbs (As.el L k) (d : Int)
                subst hAe
                obtain ⟨y, hy⟩ : ∃ y, As.el L k / (d : Int) = y := ⟨_, rfl⟩
                rw [hy] at hq hab
                have HY := Lib.hid hy
                generalize As.el L k = x at *
                have q3 : -100000000 ≤ y := by omega
                have q4 : y ≤ 100000000 := by omega
                have hO := HO.out
                unfold Own at hO
                rw [HLEN.out] at hO
                have hsz3 := HW3.out.size
                clear hcs hy hab
                have HW3' := HW3.out
                go_wp2_with (at_builtin; go_loud (refine wpList_append_lies _ rfl _ _ _ rfl w.heap.size 3 i0 _ 1 8 Try.underlying26 HI.out HI2.out HI3.out HI4.out rfl (by omega) _ k (((L.take k).map fun x => x / (d : Int)).map (Value.int .i64)) (by rfl) (World.ownsRow.alloc hO _) ⟨wr.heap.size, 0, none⟩ 1 1 [.int .i64 y] (by rfl) (by rfl) (World.news_of_block (cs := #[.int .i64 y]) (t := 3) (fr := (0, 0)) (heap_alloc_new wr _)) (by simp [Value.oneCell']) (by omega) (by unfold maxLen; omega) (by omega) (by simp; omega) (wr.heap.size + 1) (by simp) ?_; intro g cap w6 hown1 hgrow hat hglt))
                all_goals exact ⟨⟨k + 1, by omega, by go_num, Lib.hid (own_app rfl HW3.out (fun b hb => (World.ownsRow.lt hO b hb).1) hgrow), Lib.hid (by
                  unfold Own
                  rw [HS.out, List.length_append, HLEN.out, List.map_append]
                  simp only [HY.out]
                  exact hown1)⟩, by simp [intOf]; omega⟩
              · obtain rfl : k = m := by omega
                obtain ⟨X, cc, rfl⟩ := HO.out.form
                have hO := HO.out
                rw [HTL.out] at hO
                have hnl : ((L.take k).map fun x => x / (d : Int)).length = k := by rw [List.length_map, List.length_take, HL.out]; omega
                rw [hnl]
                unfold Own at hO
                rw [List.length_map, HL.out] at hO
                obtain ⟨z, hz⟩ : ∃ z, (k : Int) / (d : Int) = z := ⟨_, rfl⟩
                have HFF := Lib.hid (fun nq => HF.out X cc (wr.drewN nq) (by unfold Own; rw [List.length_map, HL.out]; exact ownG_drewN hO nq) (below_drewN HW3.out nq))
                rw [hz] at HFF
                have z0 : 0 ≤ z := by rw [← hz]; exact Int.ediv_nonneg (by omega) (by omega)
                have z1 : z ≤ 6 := by have := Int.natAbs_ediv_le_natAbs (k : Int) (d : Int); rw [hz] at this; omega
                clear hO hnl
                go_wp2_with fail
                go_quiet (fail)
                go_wp2_with fail
                go_ret2
                exact HFF.out _
    · obtain rfl : d = 1 := by omega
      have hg : As.gcl den L = 1 := by rw [HD.out]; rfl
      have HF := Lib.hid (show LoQ A L den w (.returned (.tuple #[.slice A den cap, .int .i64 den])) w from ⟨A, cap, by rw [hg, Nat.div_one], by rw [hg, As.div_one_map]; exact HH.out, .inl rfl, Below.refl _ _⟩)
      clear hg
      go_wp2_with fail
      go_ret2
      exact HF.out
end Go.Proofs.Ytpiolhjiflohgaa
namespace Go.Proofs.Ytpiolhjiflohgaa
open Go.RowKit
namespace As
theorem lp_bds {V : List (List Int)} (ok : Ok V) {j : Nat} (hj : j < V.length) : 0 ≤ el (lp V (bst V)) j ∧ el (lp V (bst V)) j ≤ 1000000 := ⟨lp_nn (bst_top ok) j, lp_bound (bst_top ok) (by have := ok.n1; omega) ok.bd hj⟩
theorem evl_succ (f : Nat → Int) (k : Nat) : (List.range (k + 1)).map f = (List.range k).map f ++ [f k] := by rw [List.range_succ, List.map_append]; rfl
end As
/-- Two stores and a third one, elsewhere. -/
theorem isI_far3 {W : World} {X : Option Addr} {l : List Int} {p : Nat} (hI : IsI W X l) (hn : ∀ b off, X = some ⟨b, off, none⟩ → p ≠ b) (k1 : Nat) (u1 : Value) (k2 : Nat) (u2 : Value) (k3 : Nat) (u3 : Value) :
    IsI (((W.setCell ⟨p, k1, none⟩ u1).setCell ⟨p, k2, none⟩ u2).setCell ⟨p, k3, none⟩ u3) X l := by
  refine ⟨fun h0 => ?_, hI.2⟩
  obtain ⟨b, off, e, hcs⟩ := hI.1 h0
  have h := hn b off e
  exact ⟨b, off, e, fun i hi => cell_far (cell_far (cell_far (hcs i hi) h _) h _) h _⟩
set_option maxRecDepth 100000 in
set_option maxHeartbeats 8000000 in
theorem r14Even_any (A : Option Addr) (cv : Nat) (V : List (List Int)) (R : Int) (w : World) (hl : V.length ≤ maxLen) (h : IsM w A V) :
    Calls Try.prog 12 #[.agg #[.slice A V.length cv, .int .i64 R]] w (EvQ V R w) := by
  have CK := fun v (hv : Below w.heap.size w v) => r14Check_any A cv V R v hl (h.keep hv)
  rcases As.rchk_two V R with ⟨h0, hc, r0, r1⟩ | ⟨h1, h2⟩
  · rw [h0] at CK
    have ok := As.chk_ok hc
    have ht := As.bst_top ok
    have n1 := ok.n1
    have n6 := ok.n6
    obtain ⟨SB1, SB2⟩ := As.lp_sum ok
    have hEO := (As.even_ok ok ht r0 r1).1
    have e1 : As.evA V R = As.bst V := by unfold As.evA; rw [if_pos h0]
    have e2 : As.evP V R = As.rdp V.length (As.evp V (As.bst V) R) := by unfold As.evP; rw [if_pos h0]
    have e3 : As.evD V R = As.rdd V.length (As.evp V (As.bst V) R) := by unfold As.evD; rw [if_pos h0]
    have HF := Lib.hid (show ∀ X c Y d w', IsI w' X (As.al (As.bst V)) → IsI w' Y (((List.range V.length).map (As.evp V (As.bst V) R)).map fun x => x / ((As.gcl V.length ((List.range V.length).map (As.evp V (As.bst V) R)) : Nat) : Int)) → Below w.heap.size w w' → EvQ V R w (.returned (.tuple #[.agg #[.slice X V.length c, .slice Y V.length d, .int .i64 ((V.length / As.gcl V.length ((List.range V.length).map (As.evp V (As.bst V) R)) : Nat) : Int)], .int .i64 0])) w' from fun X c Y d w' hI hf hb =>
      ⟨X, c, Y, d, by rw [h0, e1, e2, e3, ht.len, As.rdp_len]; rfl, by rw [e1]; exact hI, by
        rw [e2]
        unfold As.rdp
        rw [List.map_map] at hf
        exact hf, hb⟩)
    have CM := Lib.hid (fun v (hv : Below w.heap.size w v) => rMost2_any A cv V v ok (h.keep hv))
    have CL := Lib.hid (fun v (hv : Below w.heap.size w v) B c (hI : IsI v B (As.al (As.bst V))) => rLeast_any A cv V B c (As.bst V) v ok ht (h.keep hv) hI)
    have CLo := Lib.hid (fun v Y d (hI : IsI v Y ((List.range V.length).map (As.evp V (As.bst V) R))) => r14Lowest_any Y d ((List.range V.length).map (As.evp V (As.bst V) R)) V.length v (by simp) n1 n6 (fun j hj => by
      have hb := As.evp_bd ht (by omega) ok.bd r0 r1 hj
      have : As.el ((List.range V.length).map (As.evp V (As.bst V) R)) j = As.evp V (As.bst V) R j := by unfold As.el; simp [hj]
      rw [this]
      omega) hI)
    have HPB := Lib.hid (fun j hj => @As.lp_bds V ok j hj)
    have HSB := Lib.hid (fun k hk => As.sm_el_bd (ps := As.lp V (As.bst V)) (M := 1000000) (n := V.length) (fun j hj => by have := As.lp_bds ok hj; omega) k hk)
    have HEV := Lib.hid (show ∀ j, As.evp V (As.bst V) R j = (V.length : Int) * As.el (As.lp V (As.bst V)) j + R - As.sm (As.el (As.lp V (As.bst V))) (List.range V.length) from fun j => rfl)
    have HEB := Lib.hid (fun j (hj : j < V.length) => As.evp_bd ht (by omega) ok.bd r0 r1 hj)
    have HSS := Lib.hid (As.sm_range_succ (As.el (As.lp V (As.bst V))))
    have HES := Lib.hid (As.evl_succ (As.evp V (As.bst V) R))
    generalize hEVP : As.evp V (As.bst V) R = ev at *
    obtain ⟨dn, hdn⟩ : ∃ dn, V.length / As.gcl V.length ((List.range V.length).map ev) = dn := ⟨_, rfl⟩
    rw [hdn] at HF
    have HDN := Lib.hid hdn
    clear hdn
    have CK' := Lib.hid CK
    obtain ⟨i0, hi0, hz0, hz1, hz2⟩ := info_parts intInfo
    have HI := Lib.hid hi0
    have HI2 := Lib.hid hz0
    have HI3 := Lib.hid hz1
    have HI4 := Lib.hid hz2
    clear CK h0 hc ok ht e1 e2 e3 hEO h hEVP hi0 hz0 hz1 hz2
    generalize As.el (As.lp V (As.bst V)) = p at *
    go_enter Try.func12, Try.ntmps12
    go_upto_region 1 with fail
    refine at_box2 (fun V0 hbb b0 b1 hsz => ?_)
    clear hsz
    have c0 := b0.c 0 rfl
    have c1 := b0.c 1 rfl
    go_wp2_with fail
    refine (CK'.out _ hbb).mono ?_
    rintro e w1 ⟨rfl, hb1⟩
    replace c0 := keepC hb1 c0
    replace c1 := keepC hb1 c1
    replace b1 := b1.keep hb1
    replace hbb := keepB hbb hb1
    clear hb1 b0
    go_wp2_with fail
    refine (CM.out _ hbb).mono ?_
    rintro e w2 ⟨X, cX, rfl, hI, hfr, hb1⟩
    have HIX := Lib.hid hI
    have hb1l := b1.lt
    have HFR := Lib.hid (show ∀ b off, X = some ⟨b, off, none⟩ → w.heap.size + 1 ≠ b from fun b off e => by have := hfr b off e; omega)
    replace c0 := keepC hb1 c0
    replace c1 := keepC hb1 c1
    have B1 := Lib.hid (b1.keep hb1)
    replace hbb := keepB hbb hb1
    have CL' := Lib.hid (CL.out _ hbb X cX hI)
    clear hb1 hI b1 hfr hb1l
    go_wp2_with fail
    refine CL'.out.mono ?_
    rintro e w3 ⟨rfl, hbf, hb1⟩
    have HB3 := Lib.hid (keepB hbb hb1)
    have HI3X := Lib.hid (HIX.out.keep hb1)
    have B3 := Lib.hid (B1.out.keep hb1)
    have C1 := Lib.hid (keepC hb1 c1)
    have hgl := hbf.lt
    obtain ⟨g, hg⟩ : ∃ g, w2.heap.size = g := ⟨_, rfl⟩
    rw [hg] at hbf hgl
    have HBF := Lib.hid hbf
    rw [hg]
    clear hb1 c0 c1 hbb hbf CL' CM CK' CL hg B1 HIX
    go_wp2_with fail
    go_loop [7, 8] (fun s i => ∃ k : Nat, k ≤ V.length ∧ i = .int .i64 k ∧ s = .int .i64 (As.sm p (List.range k))) (fun _ i => V.length - (intOf i).toNat)
    case atStart => exact ⟨0, Nat.zero_le _, rfl, rfl⟩
    case round =>
      obtain ⟨k, hk, rfl, rfl⟩ := hrel
      by_cases hlt : k < V.length
      · have x0 := HBF.out.c hlt
        obtain ⟨b1, b2⟩ := HPB.out k hlt
        obtain ⟨s1, s2⟩ := HSB.out k hk
        have ET := Lib.hid (HSS.out k)
        have s3 : -6000000000 ≤ As.sm p (List.range k) := by omega
        have s4 : As.sm p (List.range k) ≤ 6000000000 := by omega
        clear s1 s2
        generalize p k = x at *
        generalize As.sm p (List.range k) = s at *
        go_wp2_with fail
        go_round
        case rel => exact ⟨k + 1, by omega, by go_num, by rw [ET.out]⟩
        case measure => simp [intOf]; omega
      · obtain rfl : k = V.length := by omega
        generalize hSS : As.sm p (List.range V.length) = S at *
        clear hSS
        go_wp2_with fail
        go_loopw [9, 10] (fun v i W => ∃ k : Nat, k ≤ V.length ∧ i = .int .i64 k ∧ Hid (Below w3.heap.size w3 W) ∧ Hid (Own W w3.heap.size v ((List.range k).map ev))) (fun _ i _ => V.length - (intOf i).toNat)
        case atStart => exact ⟨0, Nat.zero_le _, rfl, Lib.hid (Below.refl _ _), Lib.hid (Own.nil_ _ _)⟩
        case round =>
          obtain ⟨k, hk, rfl, HW, HO⟩ := hrel
          by_cases hlt : k < V.length
          · have x0 := HBF.out.c hlt
            obtain ⟨b1, b2⟩ := HPB.out k hlt
            obtain ⟨q1, q2⟩ := HEB.out k hlt
            have HE := Lib.hid (HEV.out k)
            have HEK := Lib.hid (HES.out k)
            have m0 : 0 ≤ (V.length : Int) * p k := Int.mul_nonneg (by omega) b1
            have m1 : (V.length : Int) * p k ≤ 6 * 1000000 := Int.mul_le_mul (by omega) b2 b1 (by omega)
            have HLEN := Lib.hid (show ((List.range k).map ev).length = k by simp)
            generalize p k = x at *
            obtain ⟨y, hy⟩ : ∃ y, (V.length : Int) * x = y := ⟨_, rfl⟩
            have a1 : IntKind.i64.wrap ((V.length : Int) * x) = y := by rw [IntWalk.i64_in _ (by omega)]; exact hy
            rw [hy] at m0 m1 HE
            have a2 : IntKind.i64.wrap (y + R) = y + R := IntWalk.i64_in _ (by omega)
            have a3 : IntKind.i64.wrap (y + R - S) = y + R - S := IntWalk.i64_in _ (by omega)
            have hO := HO.out
            unfold Own at hO
            rw [HLEN.out] at hO
            have hsz3 := HW.out.size
            have HK := Lib.hid (fun v (hv : Below w3.heap.size w3 v) => (show v.cell? ⟨w.heap.size, 1, none⟩ = some (.int .i64 R) ∧ v.cell? ⟨g, k, none⟩ = some (.int .i64 x) from ⟨keepC hv C1.out, keepC hv x0⟩))
            have hWH := HW.out
            clear hy x0 b1 b2 q1 q2
            go_upto_region 14 with fail
            go_region_held3 (fun v => v.cell? ⟨w.heap.size, 1, none⟩ = some (.int .i64 R) ∧ v.cell? ⟨g, k, none⟩ = some (.int .i64 x))
              (first | (exact HK.out _ (by assumption)) | (exact HK.out _ (Below.drew (by assumption))) | (exact HK.out _ (below_al (by assumption) _)) | (exact HK.out _ (below_al (Below.drew (by assumption)) _)))
              (first
                | (refine step_append_lies _ (by rfl) _ _ _ (by rfl) w3.heap.size 3 i0 _ 1 8 Try.underlying26 HI.out HI2.out HI3.out HI4.out rfl (by omega) _ k (((List.range k).map ev).map (Value.int .i64)) (by rfl) (World.ownsRow.alloc hO _) ⟨wr.heap.size, 0, none⟩ 1 1 [.int .i64 (y + R - S)] (by rfl) (by rfl) (World.news_of_block (cs := #[.int .i64 (y + R - S)]) (t := 3) (fr := (0, 0)) (heap_alloc_new wr _)) (by simp [Value.oneCell']) (by omega) (by unfold maxLen; omega) (by omega) (by simp; omega) (wr.heap.size + 1) (by simp) ?_; intro g6 cap w6 hown1 hgrow hat hglt; have hw6 := own_app rfl HW.out (fun b hb => (World.ownsRow.lt hO b hb).1) hgrow)
                | (refine step_append_lies _ (by rfl) _ _ _ (by rfl) w3.heap.size 3 i0 _ 1 8 Try.underlying26 HI.out HI2.out HI3.out HI4.out rfl (by omega) _ k (((List.range k).map ev).map (Value.int .i64)) (by rfl) (World.ownsRow.alloc (World.ownsRow.drew hO) _) ⟨wr.heap.size, 0, none⟩ 1 1 [.int .i64 (y + R - S)] (by rfl) (by rfl) (World.news_of_block (cs := #[.int .i64 (y + R - S)]) (t := 3) (fr := (0, 0)) (heap_alloc_new wr.drew _)) (by simp [Value.oneCell']) (by omega) (by unfold maxLen; omega) (by omega) (by simp; omega) (wr.heap.size + 1) (by simp) ?_; intro g6 cap w6 hown1 hgrow hat hglt; have hw6 := own_app rfl HW.out.drew (fun b hb => (World.ownsRow.lt hO b hb).1) hgrow))
            all_goals
              go_wp2_with fail
              go_roundw
              case rel => exact ⟨k + 1, by omega, by go_num, Lib.hid hw6, Lib.hid (by
                unfold Own
                rw [HEK.out, List.length_append, HLEN.out, List.map_append, HE.out]
                exact hown1)⟩
              case measure => simp [intOf]; omega
          · obtain rfl : k = V.length := by omega
            obtain ⟨Y, dY, rfl⟩ := HO.out.form
            have hO := HO.out
            have hnl : ((List.range V.length).map ev).length = V.length := by simp
            rw [hnl] at hO ⊢
            have hIY : IsI wr Y ((List.range V.length).map ev) := hO.isI (fun x hx => by
              obtain ⟨j, hj, rfl⟩ := List.mem_map.1 hx
              have := HEB.out j (by simpa using hj)
              unfold I64; omega)
            have HFY := Lib.hid (show ∀ b off, Y = some ⟨b, off, none⟩ → w.heap.size + 1 ≠ b from fun b off e => by
              subst e
              have h1 := (Own.lt hO b rfl).1
              have h2 := B3.out.lt
              omega)
            have CL9 := Lib.hid (CLo.out wr Y dY hIY)
            have HI4X := Lib.hid (HI3X.out.keep HW.out)
            have B4 := Lib.hid (B3.out.keep HW.out)
            have HB4 := Lib.hid (keepB HB3.out HW.out)
            clear hO hnl hIY CLo HO HEB HEV HES HSB HPB HSS
            go_wp2_with fail
            refine CL9.out.mono ?_
            rintro e w5 ⟨Z, dZ, he, hIZ, hfz, hb5⟩
            rw [HDN.out] at he
            subst he
            have b1 := B4.out.keep hb5
            have HZF := Lib.hid (show ∀ b off, Z = some ⟨b, off, none⟩ → w.heap.size + 1 ≠ b from fun b off e => by
              rcases hfz with h | h
              · exact HFY.out b off (h ▸ e)
              · have h1 := h b off e
                have h2 := B4.out.lt
                omega)
            have HIW := Lib.hid (fun k1 u1 k2 u2 k3 u3 => isI_far3 (HI4X.out.keep hb5) HFR.out k1 u1 k2 u2 k3 u3)
            have HZW := Lib.hid (fun k1 u1 k2 u2 k3 u3 => isI_far3 hIZ HZF.out k1 u1 k2 u2 k3 u3)
            have HBW := Lib.hid (keepB HB4.out hb5)
            have bb := ((b1.set 0 (.slice X V.length cX)).set 1 (.slice Z V.length dZ)).set 2 (.int .i64 (dn : Int))
            have z0 := b1.c 0 rfl
            have z1 := b1.c 1 rfl
            have z2 := b1.c 2 rfl
            have f0 := b1.f 0 rfl
            have f1 := b1.f 1 rfl
            have f2 := b1.f 2 rfl
            have r0 := bb.c 0 rfl
            have r1 := bb.c 1 rfl
            have r2 := bb.c 2 rfl
            clear bb b1 hb5 hIZ hfz
            go_wp2_with fail
            exact bodyPost_ret (v := .tuple #[.agg #[.slice X V.length cX, .slice Z V.length dZ, .int .i64 (dn : Int)], .int .i64 0]) (by simp [results, Try.results12, go_sem, r0, r1, r2]) rfl (HF.out X cX Z dZ _ (HIW.out _ _ _ _ _ _) (HZW.out _ _ _ _ _ _) (((HBW.out.setCell (Nat.le_succ _) _).setCell (Nat.le_succ _) _).setCell (Nat.le_succ _) _))
  · have HQ := Lib.hid (show ∀ (w' : World), Below w.heap.size w w' → EvQ V R w (.returned (.tuple #[.agg #[.slice none 0 0, .slice none 0 0, .int .i64 0], .int .i64 (As.rchk V R)])) w' from fun w' hb => ⟨none, 0, none, 0, by unfold As.evA As.evP As.evD; rw [if_neg h2, if_neg h2, if_neg h2]; rfl, by unfold As.evA; rw [if_neg h2]; exact isI_nil _ _, by unfold As.evP; rw [if_neg h2]; exact isI_nil _ _, hb⟩)
    generalize As.rchk V R = c at *
    have CK' := Lib.hid CK
    clear CK h2 h hl
    go_enter Try.func12, Try.ntmps12
    go_upto_region 1 with fail
    refine at_box2 (fun V0 hbb b0 b1 hsz => ?_)
    clear hsz
    have c0 := b0.c 0 rfl
    have c1 := b0.c 1 rfl
    go_wp2_with fail
    refine (CK'.out _ hbb).mono ?_
    rintro e w1 ⟨rfl, hb1⟩
    replace c0 := keepC hb1 c0
    replace c1 := keepC hb1 c1
    replace b1 := b1.keep hb1
    replace hbb := keepB hbb hb1
    clear hb1 b0
    go_wp2_with fail
    refine (CK'.out _ hbb).mono ?_
    rintro e w3 ⟨rfl, hb1⟩
    replace b1 := b1.keep hb1
    replace hbb := keepB hbb hb1
    have bb := ((b1.set 0 (.slice none 0 0)).set 1 (.slice none 0 0)).set 2 (.int .i64 0)
    have z0 := b1.c 0 rfl
    have z1 := b1.c 1 rfl
    have z2 := b1.c 2 rfl
    have f0 := b1.f 0 rfl
    have f1 := b1.f 1 rfl
    have f2 := b1.f 2 rfl
    have r0 := bb.c 0 rfl
    have r1 := bb.c 1 rfl
    have r2 := bb.c 2 rfl
    have HBB := Lib.hid hbb
    clear hb1 b1 bb c0 c1
    go_wp2_with fail
    exact bodyPost_ret (v := .tuple #[.agg #[.slice none 0 0, .slice none 0 0, .int .i64 0], .int .i64 c]) (by simp [results, Try.results12, go_sem, r0, r1, r2]) rfl (HQ.out _ (((HBB.out.setCell (Nat.le_succ _) _).setCell (Nat.le_succ _) _).setCell (Nat.le_succ _) _))
end Go.Proofs.Ytpiolhjiflohgaa
