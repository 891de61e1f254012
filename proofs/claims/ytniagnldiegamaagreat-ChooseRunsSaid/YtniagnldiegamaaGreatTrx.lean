/- The reference's Value of a valid cake; Share. -/
import Derived.Test.YtniagnldiegamaaGreatTru
set_option linter.unusedSimpArgs false
set_option maxHeartbeats 8000000
set_option maxRecDepth 100000
namespace Go.Proofs.YtniagnldiegamaaGreat
open Go.RowKit
theorem Ck.vgo_stop (c d : List Int) (a b x y : Int) {k : Nat} (h : (Ck.vgo c d a b x y k).2.2 ≠ 0) : ∀ j, Ck.vgo c d a b x y (k + j) = Ck.vgo c d a b x y k
  | 0 => rfl
  | j + 1 => by
    have ih := Ck.vgo_stop c d a b x y h j
    show Ck.vgo c d a b x y (k + j + 1) = _
    unfold Ck.vgo
    rw [ih, if_pos h]
    cases k <;> rfl
theorem Ck.vgo_step (c d : List Int) (a b x y : Int) {k : Nat} {s1 s2 : Int} (h : Ck.vgo c d a b x y k = (s1, s2, 0)) (hok : Rp.Ok s1 s2) (hw : ∀ r, Ck.wthS (Ck.mxS a b (Ck.at_ c k) 1).1 (Ck.mxS a b (Ck.at_ c k) 1).2 (Ck.mnS x y (Ck.at_ c (k + 1)) 1).1 (Ck.mnS x y (Ck.at_ c (k + 1)) 1).2 (Ck.at_ d k) = r → r.2.2 = 0 ∨ r = (0, 0, 16)) (W1 W2 W3 : Int) (e : Ck.wrS (Ck.mxS a b (Ck.at_ c k) 1).1 (Ck.mxS a b (Ck.at_ c k) 1).2 (Ck.mnS x y (Ck.at_ c (k + 1)) 1).1 (Ck.mnS x y (Ck.at_ c (k + 1)) 1).2 (Ck.at_ d k) = (W1, W2, W3)) :
    (W3 = 0 ∧ Ck.vgo c d a b x y (k + 1) = Rp.addS s1 s2 W1 W2) ∨ (W1 = 0 ∧ W2 = 0 ∧ W3 = 16 ∧ Ck.vgo c d a b x y (k + 1) = (0, 0, 16)) := by
  unfold Ck.wrS at e
  unfold Ck.vgo
  rw [h]
  dsimp only
  rw [if_neg (by decide)]
  split at e
  · next hc =>
    rw [if_pos hc]
    simp only [Prod.mk.injEq] at e
    obtain ⟨rfl, rfl, rfl⟩ := e; refine .inl ⟨rfl, ?_⟩; rw [Rp.addS_ok hok (show Rp.Ok 0 1 by decide), Rp.q_one, show ((0 : Int) : Rat) = 0 from rfl, Rat.add_zero, Rp.ofQ_q hok]
  · next hc =>
    rw [if_neg hc]; have hz := hw _ rfl; rw [e] at hz ⊢; dsimp only at hz ⊢
    rcases hz with rfl | hz
    · rw [if_neg (by decide)]
      exact .inl ⟨rfl, rfl⟩
    · simp only [Prod.mk.injEq] at hz
      obtain ⟨rfl, rfl, rfl⟩ := hz; rw [if_pos (by decide)]; exact .inr ⟨rfl, rfl, rfl, rfl⟩
theorem rvalue_any (len : Int) (K : Option Addr) (cuts : List Int) (ck : Nat) (Z : Option Addr) (dens : List Int) (cz : Nat) (a b x y : Int) (w : World) (h : IsCake w len K cuts Z dens) (hc : Ck.chk len cuts dens = 0) (p1 : Ck.pt len a b = true) (p2 : Ck.pt len x y = true) (hle : Rp.q a b ≤ Rp.q x y) :
    Calls Tryz.prog 129 #[.agg #[.int .i64 len, .slice K cuts.length ck, .slice Z dens.length cz], .agg #[.int .i64 a, .int .i64 b], .agg #[.int .i64 x, .int .i64 y]] w fun e w' => e = .returned (.tuple #[.agg #[.int .i64 (Ck.vgo cuts dens a b x y dens.length).1, .int .i64 (Ck.vgo cuts dens a b x y dens.length).2.1], .int .i64 (Ck.vgo cuts dens a b x y dens.length).2.2]) ∧ Below w.heap.size w w' := by
  have hG := Ck.chk_good hc
  have cc := fun v (hb : Below w.heap.size w v) => rckCheck_any len K cuts ck Z dens cz v (h.keep hb)
  rw [hc] at cc; have ok1 := (pt_spec p1).1; have ok2 := (pt_spec p2).1
  have i64 : ∀ n d : Int, Rp.Ok n d → I64 n ∧ I64 d := fun n d ho => by
    have e1 := ho.1; have e2 := ho.2.1; have e3 := ho.2.2.1; have e4 := ho.2.2.2.1
    unfold I64
    omega
  have q1 := fun v => rpoint_any len a b v hG.len0 hG.len1 (i64 _ _ ok1).1 (i64 _ _ ok1).2
  have q2 := fun v => rpoint_any len x y v hG.len0 hG.len1 (i64 _ _ ok2).1 (i64 _ _ ok2).2
  rw [p1] at q1; rw [p2] at q2
  have ls := fun v => Less_any x y a b ok2 ok1 v
  rw [decide_eq_false (by grind)] at ls; obtain ⟨⟨l0, l1⟩, _, iK, iZ⟩ := h; obtain ⟨bk, ok, rfl, hk⟩ := iK.1 (by have := hG.shape; omega); obtain ⟨bz, oz, rfl, hz⟩ := iZ.1 (by have := hG.shape; omega); obtain ⟨m, hm⟩ : ∃ m, dens.length = m := ⟨_, rfl⟩; have hsh := hG.shape
  have hn : cuts.length = m + 1 := by omega
  have hmm : m ≤ 39 := by omega
  have hm1 : 1 ≤ m := by omega
  have vg := fun k (hk : k ≤ m) => Ck.vgo_is hG ok1 ok2 hle k (by omega)
  have wt : ∀ k, k < m → ∀ r, Ck.wthS (Ck.mxS a b (Ck.at_ cuts k) 1).1 (Ck.mxS a b (Ck.at_ cuts k) 1).2 (Ck.mnS x y (Ck.at_ cuts (k + 1)) 1).1 (Ck.mnS x y (Ck.at_ cuts (k + 1)) 1).2 (Ck.at_ dens k) = r → r.2.2 = 0 ∨ r = (0, 0, 16) := fun k hk r e => by
    have r1 := hG.range k (by omega); have r2 := hG.range (k + 1) (by omega); have hst := hG.step k (by omega); have len1 := hG.len1; have hw := Ck.wthS_is (Ck.mxS_ok ok1 (Rp.Ok_one (F := Ck.at_ cuts k) (by omega) (by omega))).1 (Ck.mnS_ok ok2 (Rp.Ok_one (F := Ck.at_ cuts (k + 1)) (by omega) (by omega))).1 (k := Ck.at_ dens k) (by omega) (by omega); rw [e] at hw
    rcases hw with hw | hw
    · exact .inl hw.1
    · exact .inr hw
  have wo : ∀ k, k < m → ∀ v, Below w.heap.size w v → _ := fun k hk' v hb => by
    have r1 := hG.range k (by omega); have r2 := hG.range (k + 1) (by omega); have hst := hG.step k (by omega); have len1 := hG.len1; exact rworth_any len bk ok (m + 1) ck bz oz m cz k a b x y (Ck.at_ cuts k) (Ck.at_ cuts (k + 1)) (Ck.at_ dens k) v ok1 ok2 (by omega) (by omega) (by omega) (by omega) hk' (by omega) (keepC hb (hk k (by omega))) (keepC hb (hk (k + 1) (by omega))) (keepC hb (hz k (by omega)))
  have ad := fun s1 s2 t1 t2 v (o1 : Rp.Ok s1 s2) (o2 : Rp.Ok t1 t2) => rAdd_any s1 s2 t1 t2 v (by have := o1.2.2.1; omega) (by have := o1.2.2.2.1; omega) (by have := o1.1; omega) (by have := o1.2.1; omega) (by have := o2.2.2.1; omega) (by have := o2.2.2.2.1; omega) (by have := o2.1; omega) (by have := o2.2.1; omega)
  rw [hm] at hz; rw [hn] at hk; rw [hm, hn] at cc ⊢
  have ok2w : ∀ k, k < m → ∀ W1 W2, Ck.wthS (Ck.mxS a b (Ck.at_ cuts k) 1).1 (Ck.mxS a b (Ck.at_ cuts k) 1).2 (Ck.mnS x y (Ck.at_ cuts (k + 1)) 1).1 (Ck.mnS x y (Ck.at_ cuts (k + 1)) 1).2 (Ck.at_ dens k) = (W1, W2, 0) → Rp.Ok W1 W2 := fun k hk W1 W2 e => by
    have r1 := hG.range k (by omega); have r2 := hG.range (k + 1) (by omega); have hst := hG.step k (by omega); have len1 := hG.len1; have hw := Ck.wthS_is (Ck.mxS_ok ok1 (Rp.Ok_one (F := Ck.at_ cuts k) (by omega) (by omega))).1 (Ck.mnS_ok ok2 (Rp.Ok_one (F := Ck.at_ cuts (k + 1)) (by omega) (by omega))).1 (k := Ck.at_ dens k) (by omega) (by omega); rw [e] at hw
    rcases hw with hw | hw
    · exact hw.2.1
    · simp at hw
  have OK2 := Lib.hid ok2w; clear ok2w; have CC := Lib.hid cc; have Q1 := Lib.hid q1; have Q2 := Lib.hid q2; have LS := Lib.hid ls; have VG := Lib.hid vg; have WT := Lib.hid wt; have WO' := Lib.hid wo; have AD := Lib.hid ad; have HM := Lib.hid hm; clear cc q1 q2 ls vg wt wo ad hm hG hsh hn iK iZ hk hz i64 ok1 ok2 hle p1 p2 hc
  go_enter Tryz.func129, Tryz.ntmps129
  go_upto_region 1 with fail
  refine at_box4 (fun V hbb B0 B1 B2 B3 hVs => ?_); have o00 := B0.c 0 rfl; have o01 := B0.c 1 rfl; have o02 := B0.c 2 rfl; have o10 := B1.c 0 rfl; have o11 := B1.c 1 rfl; have o20 := B2.c 0 rfl; have o21 := B2.c 1 rfl; (go_wp2_with fail); refine (CC.out _ hbb).mono ?_; rintro e w1 ⟨rfl, hb⟩; clear o00 o01 o02 o10 o11 o20 o21; replace hbb := keepB hbb hb; replace B0 := B0.keep hb; replace B1 := B1.keep hb; replace B2 := B2.keep hb; replace B3 := B3.keep hb; clear hb; have o00 := B0.c 0 rfl; have o01 := B0.c 1 rfl; have o02 := B0.c 2 rfl; have o10 := B1.c 0 rfl; have o11 := B1.c 1 rfl; have o20 := B2.c 0 rfl; have o21 := B2.c 1 rfl; (go_wp2_with fail); refine (Q1.out _).mono ?_; rintro e w2 ⟨rfl, hb⟩; clear o00 o01 o02 o10 o11 o20 o21; replace hbb := keepB hbb hb; replace B0 := B0.keep hb; replace B1 := B1.keep hb; replace B2 := B2.keep hb; replace B3 := B3.keep hb; clear hb; have o00 := B0.c 0 rfl; have o01 := B0.c 1 rfl; have o02 := B0.c 2 rfl; have o10 := B1.c 0 rfl; have o11 := B1.c 1 rfl; have o20 := B2.c 0 rfl; have o21 := B2.c 1 rfl; (go_wp2_with fail); refine (Q2.out _).mono ?_; rintro e w3 ⟨rfl, hb⟩; clear o00 o01 o02 o10 o11 o20 o21; replace hbb := keepB hbb hb; replace B0 := B0.keep hb; replace B1 := B1.keep hb; replace B2 := B2.keep hb; replace B3 := B3.keep hb; clear hb; have o00 := B0.c 0 rfl; have o01 := B0.c 1 rfl; have o02 := B0.c 2 rfl; have o10 := B1.c 0 rfl; have o11 := B1.c 1 rfl; have o20 := B2.c 0 rfl; have o21 := B2.c 1 rfl; (go_wp2_with fail); refine (LS.out _).mono ?_; rintro e w4 ⟨rfl, hb⟩; clear o00 o01 o02 o10 o11 o20 o21; replace hbb := keepB hbb hb; replace B0 := B0.keep hb; replace B1 := B1.keep hb; replace B2 := B2.keep hb; replace B3 := B3.keep hb; clear hb; clear CC Q1 Q2 LS
  go_upto_region 6 with fail
  refine at_worldQ (fun v => Below w.heap.size w v ∧ BK v w.heap.size [.int .i64 len, .slice (some ⟨bk, ok, none⟩) (m + 1) ck, .slice (some ⟨bz, oz, none⟩) m cz] ∧ BK v (w.heap.size + 1) [.int .i64 a, .int .i64 b] ∧ BK v (w.heap.size + 2) [.int .i64 x, .int .i64 y] ∧ BK v (w.heap.size + 3) [.int .i64 0, .int .i64 0] ∧ BK v w4.heap.size [.int .i64 0, .int .i64 1]) ⟨below_al hbb _, B0.al _, B1.al _, B2.al _, B3.al _, BK.new _ _ _⟩ (fun V5 hS => ?_); have hw4 : w.heap.size + 4 ≤ w4.heap.size := B3.lt; clear hbb B0 B1 B2 B3; obtain ⟨hbb, B0, B1, B2, B3, B8⟩ := hS; obtain ⟨p8, hp8⟩ : ∃ z, w4.heap.size = z := ⟨_, rfl⟩; rw [hp8] at B8 hw4 ⊢; clear hp8; (go_wp2_with fail)
  go_loopw [9] (fun i W => ∃ (k : Nat) (s1 s2 : Int), k ≤ m ∧ i = .int .i64 k ∧ Ck.vgo cuts dens a b x y k = (s1, s2, 0) ∧ Below w.heap.size w W ∧ BK W w.heap.size [.int .i64 len, .slice (some ⟨bk, ok, none⟩) (m + 1) ck, .slice (some ⟨bz, oz, none⟩) m cz] ∧ BK W (w.heap.size + 1) [.int .i64 a, .int .i64 b] ∧ BK W (w.heap.size + 2) [.int .i64 x, .int .i64 y] ∧ BK W (w.heap.size + 3) [.int .i64 0, .int .i64 0] ∧ BK W p8 [.int .i64 s1, .int .i64 s2]) (fun i _ => m - (intOf i).toNat)
  case atStart => exact ⟨0, 0, 1, Nat.zero_le _, rfl, rfl, hbb, B0, B1, B2, B3, B8⟩
  case round =>
    clear hbb B0 B1 B2 B3 B8 hVs; obtain ⟨k, s1, s2, hk, rfl, hv, hbb, B0, B1, B2, B3, B8⟩ := hrel; have hvk := VG.out k hk; rw [hv] at hvk
    have hs : Rp.Ok s1 s2 := by
      rcases hvk with hvk | hvk
      · exact hvk.2.1
      · simp at hvk
    clear hvk; have y2 := B0.c 2 rfl
    by_cases hlt : k < m
    · have i1 : (k : Int) < (m : Int) := by omega
      obtain ⟨⟨W1, W2, W3⟩, hW⟩ : ∃ z, Ck.wrS (Ck.mxS a b (Ck.at_ cuts k) 1).1 (Ck.mxS a b (Ck.at_ cuts k) 1).2 (Ck.mnS x y (Ck.at_ cuts (k + 1)) 1).1 (Ck.mnS x y (Ck.at_ cuts (k + 1)) 1).2 (Ck.at_ dens k) = z := ⟨_, rfl⟩; have hst := Ck.vgo_step cuts dens a b x y hv hs (WT.out k hlt) W1 W2 W3 hW; have wor := WO'.out k hlt; rw [hW] at wor
      have hWok : W3 = 0 → Rp.Ok W1 W2 := fun h0 => by
        subst h0
        unfold Ck.wrS at hW
        split at hW
        · simp only [Prod.mk.injEq] at hW
          obtain ⟨rfl, rfl, -⟩ := hW
          decide
        · rcases WT.out k hlt _ hW with _ | he
          · exact OK2.out k hlt W1 W2 hW
          · simp at he
      have WOR := Lib.hid wor; clear wor; have HST := Lib.hid hst; have HWK := Lib.hid hWok; have HSO := Lib.hid hs; have HV := Lib.hid hv; clear hst hWok hs hv hW; have o00 := B0.c 0 rfl; have o01 := B0.c 1 rfl; have o02 := B0.c 2 rfl; have o10 := B1.c 0 rfl; have o11 := B1.c 1 rfl; have o20 := B2.c 0 rfl; have o21 := B2.c 1 rfl; (go_wp2_with fail); refine (WOR.out _ hbb).mono ?_; rintro e w5 ⟨rfl, hb⟩; clear o00 o01 o02 o10 o11 o20 o21; replace hbb := keepB hbb hb; replace B0 := B0.keep hb; replace B1 := B1.keep hb; replace B2 := B2.keep hb; replace B3 := B3.keep hb; replace B8 := B8.keep hb; clear hb WOR y2; have hp8l := B8.lt
      go_upto_region 10 with fail
      refine at_worldQ (fun v => Below w.heap.size w v ∧ BK v w.heap.size [.int .i64 len, .slice (some ⟨bk, ok, none⟩) (m + 1) ck, .slice (some ⟨bz, oz, none⟩) m cz] ∧ BK v (w.heap.size + 1) [.int .i64 a, .int .i64 b] ∧ BK v (w.heap.size + 2) [.int .i64 x, .int .i64 y] ∧ BK v (w.heap.size + 3) [.int .i64 0, .int .i64 0] ∧ BK v p8 [.int .i64 s1, .int .i64 s2] ∧ BK v w5.heap.size [.int .i64 W1, .int .i64 W2]) ⟨below_al hbb _, B0.al _, B1.al _, B2.al _, B3.al _, B8.al _, BK.new _ _ _⟩ (fun V6 hS => ?_); clear hbb B0 B1 B2 B3 B8; obtain ⟨hbb, B0, B1, B2, B3, B8, BW⟩ := hS
      have hb3 : w.heap.size + 3 ≠ p8 := by omega
      rcases HST.out with ⟨rfl, hst⟩ | ⟨rfl, rfl, rfl, hst⟩
      · have ad := fun v => AD.out s1 s2 W1 W2 v HSO.out (HWK.out rfl)
        have hac := Rp.ofQ_cases (Rp.q s1 s2 + Rp.q W1 W2); rw [← Rp.addS_ok HSO.out (HWK.out rfl)] at hac; rw [← hst] at ad hac; obtain ⟨⟨A1, A2, A3⟩, hA⟩ : ∃ z, Ck.vgo cuts dens a b x y (k + 1) = z := ⟨_, rfl⟩; rw [hA] at ad hac; dsimp only at ad hac; have AD2 := Lib.hid ad; have HA := Lib.hid hA; clear ad hA hst HST HWK HSO HV; have s0 := B8.c 0 rfl; have s1' := B8.c 1 rfl; have u0 := BW.c 0 rfl; have u1 := BW.c 1 rfl; (go_wp2_with fail); refine (AD2.out _).mono ?_; rintro e w7 ⟨rfl, hb⟩; clear s0 s1' u0 u1 BW; replace hbb := keepB hbb hb; replace B0 := B0.keep hb; replace B1 := B1.keep hb; replace B2 := B2.keep hb; replace B3 := B3.keep hb; replace B8 := B8.keep hb; clear hb AD2; have n0 := B8.c 0 rfl; have n1 := B8.c 1 rfl; have f0 := B8.f 0 rfl; have f1 := B8.f 1 rfl; have hw7 := hbb.size
        go_upto_region 13 with fail
        refine at_worldQ (fun v => Below w.heap.size w v ∧ BK v w.heap.size [.int .i64 len, .slice (some ⟨bk, ok, none⟩) (m + 1) ck, .slice (some ⟨bz, oz, none⟩) m cz] ∧ BK v (w.heap.size + 1) [.int .i64 a, .int .i64 b] ∧ BK v (w.heap.size + 2) [.int .i64 x, .int .i64 y] ∧ BK v (w.heap.size + 3) [.int .i64 0, .int .i64 0] ∧ BK v p8 [.int .i64 A1, .int .i64 A2]) ⟨below_set (below_set hbb (by omega) _) (by omega) _, ((B0.far (by omega) _ _).far (by omega) _ _), ((B1.far (by omega) _ _).far (by omega) _ _), ((B2.far (by omega) _ _).far (by omega) _ _), ((B3.far (by omega) _ _).far (by omega) _ _), (B8.set 0 _).set 1 _⟩ (fun V8 hS => ?_); clear hbb B0 B1 B2 B3 B8 n0 n1 f0 f1; obtain ⟨hbb, B0, B1, B2, B3, B8⟩ := hS
        rcases hac with ⟨rfl, -, -⟩ | hac
        · go_wp2_with fail
          go_roundw
          case rel => exact ⟨k + 1, A1, A2, by omega, by go_num, HA.out, hbb, B0, B1, B2, B3, B8⟩
          case measure => (simp [intOf] <;> omega)
        · simp only [Prod.mk.injEq] at hac
          obtain ⟨rfl, rfl, rfl⟩ := hac; obtain ⟨j, hj⟩ : ∃ j, m = k + 1 + j := ⟨m - (k + 1), by omega⟩
          have hfin : Ck.vgo cuts dens a b x y m = (0, 0, 16) := by
            rw [hj, Ck.vgo_stop cuts dens a b x y (by rw [HA.out]; decide) j, HA.out]
          have HFIN := Lib.hid hfin; clear hj hfin; have r0 := B3.c 0 rfl; have r1 := B3.c 1 rfl; have g0 := B3.f 0 rfl; have g1 := B3.f 1 rfl; (go_wp2_with fail); exact bodyPost_ret (v := .tuple #[.agg #[.int .i64 0, .int .i64 0], .int .i64 16]) (by simp [results, Tryz.results129, go_sem, r0, r1]) rfl ⟨by rw [HFIN.out], below_set (below_set hbb (by omega) _) (by omega) _⟩
      · obtain ⟨j, hj⟩ : ∃ j, m = k + 1 + j := ⟨m - (k + 1), by omega⟩
        have hfin : Ck.vgo cuts dens a b x y m = (0, 0, 16) := by
          rw [hj, Ck.vgo_stop cuts dens a b x y (by rw [hst]; decide) j, hst]
        have HFIN := Lib.hid hfin; clear hj hfin hst HST; have r0 := B3.c 0 rfl; have r1 := B3.c 1 rfl; have g0 := B3.f 0 rfl; have g1 := B3.f 1 rfl; (go_wp2_with fail); exact bodyPost_ret (v := .tuple #[.agg #[.int .i64 0, .int .i64 0], .int .i64 16]) (by simp [results, Tryz.results129, go_sem, r0, r1]) rfl ⟨by rw [HFIN.out], below_set (below_set hbb (by omega) _) (by omega) _⟩
    · obtain rfl : k = m := by omega
      have i1 : ¬ (k : Int) < (k : Int) := by omega
      have HFIN := Lib.hid hv; have s0 := B8.c 0 rfl; have s1' := B8.c 1 rfl; have r0 := B3.c 0 rfl; have r1 := B3.c 1 rfl; have g0 := B3.f 0 rfl; have g1 := B3.f 1 rfl; clear hv; (go_wp2_with fail); exact bodyPost_ret (v := .tuple #[.agg #[.int .i64 s1, .int .i64 s2], .int .i64 0]) (by simp [results, Tryz.results129, go_sem, r0, r1]) rfl ⟨by rw [HFIN.out], below_set (below_set hbb (by omega) _) (by omega) _⟩
end Go.Proofs.YtniagnldiegamaaGreat

