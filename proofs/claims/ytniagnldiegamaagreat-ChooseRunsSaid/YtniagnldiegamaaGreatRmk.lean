/- The reference's Mark of a valid cake. -/
import Derived.Test.YtniagnldiegamaaGreatRmm
import Derived.Test.YtniagnldiegamaaGreatRdiv
import Derived.Deep.CutBlock
import Derived.Deep.DeepCutAuto
namespace Go.Proofs.YtniagnldiegamaaGreat
open Go.RowKit
set_option linter.unusedSimpArgs false in
set_option maxHeartbeats 8000000 in
set_option maxRecDepth 100000 in
theorem rmark_any (len : Int) (K : Option Addr) (cuts : List Int) (ck : Nat) (Z : Option Addr) (dens : List Int) (cz : Nat) (a b v1 v2 : Int) (w : World) (h : IsCake w len K cuts Z dens) (hc : Ck.chk len cuts dens = 0) (p1 : Ck.pt len a b = true) (o2 : Rp.Ok v1 v2) (h0 : 0 ≤ v1) :
    Calls Tryz.prog 130 #[.agg #[.int .i64 len, .slice K cuts.length ck, .slice Z dens.length cz], .agg #[.int .i64 a, .int .i64 b], .agg #[.int .i64 v1, .int .i64 v2]] w fun e w' => e = .returned (.tuple #[.agg #[.int .i64 (Ck.mrk len cuts dens a b v1 v2).1, .int .i64 (Ck.mrk len cuts dens a b v1 v2).2.1], .int .i64 (Ck.mrk len cuts dens a b v1 v2).2.2]) ∧ Below w.heap.size w w' := by
  have hG := Ck.chk_good hc
  have cc := fun v (hb : Below w.heap.size w v) => rckCheck_any len K cuts ck Z dens cz v (h.keep hb)
  rw [hc] at cc; have ok1 := (pt_spec p1).1
  have i64 : ∀ n d : Int, Rp.Ok n d → I64 n ∧ I64 d := fun n d ho => by
    have e1 := ho.1; have e2 := ho.2.1; have e3 := ho.2.2.1; have e4 := ho.2.2.2.1
    unfold I64
    omega
  have q1 := fun v => rpoint_any len a b v hG.len0 hG.len1 (i64 _ _ ok1).1 (i64 _ _ ok1).2
  rw [p1] at q1
  have rc := fun v => rCheck_any v1 v2 v (i64 _ _ o2).1.1 (i64 _ _ o2).1.2 (i64 _ _ o2).2.1 (i64 _ _ o2).2.2
  rw [show Rp.chk v1 v2 = 0 from by unfold Rp.chk; rw [if_pos o2]] at rc
  have hnv : ¬ v1 < 0 := by omega
  obtain ⟨⟨l0, l1⟩, _, iK, iZ⟩ := h; obtain ⟨bk, ok, rfl, hk⟩ := iK.1 (by have := hG.shape; omega); obtain ⟨bz, oz, rfl, hz⟩ := iZ.1 (by have := hG.shape; omega); obtain ⟨m, hm⟩ : ∃ m, dens.length = m := ⟨_, rfl⟩; have hsh := hG.shape
  have hn : cuts.length = m + 1 := by omega
  have hmm : m ≤ 39 := by omega
  have hm1 : 1 ≤ m := by omega
  have rng : ∀ k, k < m → 0 ≤ Ck.at_ cuts k ∧ Ck.at_ cuts k < Ck.at_ cuts (k + 1) ∧ Ck.at_ cuts (k + 1) ≤ 1000 ∧ (0 ≤ Ck.at_ dens k ∧ Ck.at_ dens k ≤ 12 ∧ Ck.at_ cuts (k + 1) ≤ len) ∧ w.cell? ⟨bk, ok + k, none⟩ = some (.int .i64 (Ck.at_ cuts k)) ∧ w.cell? ⟨bk, ok + (k + 1), none⟩ = some (.int .i64 (Ck.at_ cuts (k + 1))) ∧ w.cell? ⟨bz, oz + k, none⟩ = some (.int .i64 (Ck.at_ dens k)) := fun k hkm => by
    have r1 := hG.range k (by omega); have r2 := hG.range (k + 1) (by omega); have hst := hG.step k (by omega); have len1 := hG.len1; have hle := hG.mono (k + 1) dens.length (by omega) (Nat.le_refl _); rw [hG.last] at hle; exact ⟨by omega, by omega, by omega, ⟨by omega, by omega, by omega⟩, hk k (by omega), hk (k + 1) (by omega), hz k (by omega)⟩
  obtain ⟨⟨R1, R2, R3⟩, hr⟩ : ∃ z, (if v1 = 0 then (0, 0, 0) else Ck.mrk len cuts dens a b v1 v2) = z := ⟨_, rfl⟩
  have hR : 0 < v1 → Ck.mrk len cuts dens a b v1 v2 = (R1, R2, R3) := fun g => by
    rw [← hr, if_neg (by omega)]
  have hZ : v1 = 0 → Ck.mrk len cuts dens a b v1 v2 = (a, b, 0) := fun g => by
    unfold Ck.mrk
    rw [if_pos g]
  have ini : v1 = 0 ∧ v1 = 0 ∨ 0 < v1 ∧ 0 < v1 ∧ Ck.mgo len cuts dens a b (m - 0) 0 v1 v2 = (R1, R2, R3) := by
    by_cases g : v1 = 0
    · exact .inl ⟨g, g⟩
    · refine .inr ⟨by omega, by omega, ?_⟩
      rw [← hR (by omega)]
      unfold Ck.mrk
      rw [if_neg g, hm]
      rfl
  have mx0 : Ck.mxS a b (Ck.at_ cuts 0) 1 = (a, b) := by
    have e0 : Ck.at_ cuts 0 = 0 := hG.first
    unfold Ck.mxS
    rw [e0, if_neg]; rw [Rp.q_one]; exact Rat.not_lt.2 ((Ck.q_nonneg ok1).2 (pt_spec p1).2.1)
  have cd := fun k (hkm : k < m) v (hb : Below w.heap.size w v) => keepC hb (rng k hkm).2.2.2.2.2.2
  rw [hm] at hz; rw [hn] at hk; rw [hm, hn] at cc ⊢; have CC := Lib.hid cc; have Q1 := Lib.hid q1; have RC := Lib.hid rc; have RNG := Lib.hid rng; have HR := Lib.hid hR; have HZ := Lib.hid hZ; have INI := Lib.hid ini; have MX0 := Lib.hid mx0; have O2 := Lib.hid o2; have OA := Lib.hid ok1; have CD := Lib.hid cd; have M39 := Lib.hid (show m + 1 ≤ 40 by omega); clear cc q1 rc rng hR hZ ini mx0 o2 ok1 cd hm hG hsh hn iK iZ hk hz i64 p1 hc hr
  go_enter Tryz.func130, Tryz.ntmps130
  go_upto_region 1 with fail
  refine at_box4 (fun V hbb B0 B1 B2 B3 hVs => ?_); have cB00 := B0.c 0 rfl; have cB01 := B0.c 1 rfl; have cB02 := B0.c 2 rfl; (go_wp2_with fail); refine (CC.out _ hbb).mono ?_; rintro e w1 ⟨rfl, hb⟩; clear cB00 cB01 cB02; replace hbb := keepB hbb hb; replace B0 := B0.keep hb; replace B1 := B1.keep hb; replace B2 := B2.keep hb; replace B3 := B3.keep hb; clear hb; have cB00 := B0.c 0 rfl; have cB01 := B0.c 1 rfl; have cB02 := B0.c 2 rfl; have cB10 := B1.c 0 rfl; have cB11 := B1.c 1 rfl; (go_wp2_with fail); refine (Q1.out _).mono ?_; rintro e w2 ⟨rfl, hb⟩; clear cB00 cB01 cB02 cB10 cB11; replace hbb := keepB hbb hb; replace B0 := B0.keep hb; replace B1 := B1.keep hb; replace B2 := B2.keep hb; replace B3 := B3.keep hb; clear hb; have cB20 := B2.c 0 rfl; have cB21 := B2.c 1 rfl; (go_wp2_with fail); refine (RC.out _).mono ?_; rintro e w3 ⟨rfl, hb⟩; clear cB20 cB21; replace hbb := keepB hbb hb; replace B0 := B0.keep hb; replace B1 := B1.keep hb; replace B2 := B2.keep hb; replace B3 := B3.keep hb; clear hb; have hB8 := B3.lt; have cB10 := B1.c 0 rfl; have cB11 := B1.c 1 rfl; have cB20 := B2.c 0 rfl; have cB21 := B2.c 1 rfl; have hsB8 := hbb.size
  go_upto_region 6 with fail
  refine at_worldQ (fun v => Below w.heap.size w v ∧ BK v (w.heap.size) [.int .i64 len, .slice (some ⟨bk, ok, none⟩) (m + 1) ck, .slice (some ⟨bz, oz, none⟩) m cz] ∧ BK v (w.heap.size + 1) [.int .i64 a, .int .i64 b] ∧ BK v (w.heap.size + 2) [.int .i64 v1, .int .i64 v2] ∧ BK v (w.heap.size + 3) [.int .i64 0, .int .i64 0] ∧ BK v w3.heap.size [.int .i64 a, .int .i64 b]) ⟨below_al hbb _, B0.al _, B1.al _, B2.al _, B3.al _, BK.new _ _ _⟩ (fun VB8 hS => ?_); clear hbb B0 B1 B2 B3; obtain ⟨hbb, B0, B1, B2, B3, B8⟩ := hS; obtain ⟨pB8, hpB8⟩ : ∃ z, w3.heap.size = z := ⟨_, rfl⟩; rw [hpB8] at B8 hsB8 hB8 ⊢; clear hpB8; clear cB10 cB11 cB20 cB21; have HB8 := Lib.hid hB8; clear hB8; clear CC Q1 RC; (go_wp2_with fail)
  go_loopw [9] (fun i W => ∃ (k : Nat) (l1 l2 p1 p2 : Int), k ≤ m ∧ i = .int .i64 k ∧ Ck.mxS a b (Ck.at_ cuts k) 1 = (p1, p2) ∧ (v1 = 0 ∧ l1 = 0 ∨ 0 < v1 ∧ 0 < l1 ∧ Ck.mgo len cuts dens a b (m - k) k l1 l2 = (R1, R2, R3)) ∧ Rp.Ok l1 l2 ∧ Below w.heap.size w W ∧ BK W (w.heap.size) [.int .i64 len, .slice (some ⟨bk, ok, none⟩) (m + 1) ck, .slice (some ⟨bz, oz, none⟩) m cz] ∧ BK W (w.heap.size + 1) [.int .i64 a, .int .i64 b] ∧ BK W (w.heap.size + 2) [.int .i64 l1, .int .i64 l2] ∧ BK W (w.heap.size + 3) [.int .i64 0, .int .i64 0] ∧ BK W pB8 [.int .i64 p1, .int .i64 p2]) (fun i _ => m - (intOf i).toNat)
  case atStart => exact ⟨0, v1, v2, a, b, Nat.zero_le _, rfl, MX0.out, INI.out, O2.out, hbb, B0, B1, B2, B3, B8⟩
  case round =>
    clear hbb B0 B1 B2 B3 B8 hVs; obtain ⟨k, l1, l2, p1, p2, hk, rfl, hp, hg, hlo, hbb, B0, B1, B2, B3, B8⟩ := hrel; obtain ⟨w5, hw5⟩ : ∃ w5 : World, w5 = wr := ⟨_, rfl⟩; subst hw5; have hB8 := HB8.out; have hp8l := B8.lt
    by_cases hl0 : 0 < l1
    · obtain ⟨hv1, -, hg⟩ : 0 < v1 ∧ 0 < l1 ∧ Ck.mgo len cuts dens a b (m - k) k l1 l2 = (R1, R2, R3) := hg.resolve_left (fun e => by omega)
      have hR := HR.out hv1
      by_cases hlt : k < m
      · have i1 : (k : Int) < (m : Int) := by omega
        obtain ⟨r0, r1, r2, r3, c1, c2, c3⟩ := RNG.out k hlt; obtain ⟨g, hg0⟩ : ∃ g, m - k = g + 1 := ⟨m - k - 1, by omega⟩
        have hgk : m - (k + 1) = g := by omega
        rw [hg0] at hg
        have op : Rp.Ok p1 p2 := by
          have := (Ck.mxS_ok OA.out (Rp.Ok_one (F := Ck.at_ cuts k) (by omega) (by omega))).1; rw [hp] at this; exact this
        have c1 := keepC hbb c1; have c2 := keepC hbb c2; have c3 := keepC hbb c3; have CG := Lib.hid hg; have HP := Lib.hid hp; have HLO := Lib.hid hlo; have HOP := Lib.hid op; have CR := Lib.hid hR; clear hg hp hlo op hR hg0; have mx2 := Ck.mx_pair HP.out (b := Ck.at_ cuts (k + 1)) (by omega); have MX2 := Lib.hid mx2; clear mx2; have hE : Rp.Ok (Ck.at_ cuts (k + 1)) 1 := Rp.Ok_one (by omega) (by omega); have HE := Lib.hid hE; clear hE; have lat := rlater_any p1 p2 (Ck.at_ cuts (k + 1)) 1 HOP.out HE.out; rw [MX2.out] at lat
        have wo := fun v (hb : Below w.heap.size w v) => rworth_any len bk ok (m + 1) ck bz oz m cz k p1 p2 (Ck.at_ cuts (k + 1)) 1 (Ck.at_ cuts k) (Ck.at_ cuts (k + 1)) (Ck.at_ dens k) v HOP.out HE.out (by omega) (by omega) (by omega) (by omega) hlt M39.out (keepC hb (RNG.out k hlt).2.2.2.2.1) (keepC hb (RNG.out k hlt).2.2.2.2.2.1) (keepC hb (RNG.out k hlt).2.2.2.2.2.2)
        have ga := Ck.mgo_a (len := len) (c := cuts) (d := dens) (n1 := a) (d1 := b) (p1 := p1) (p2 := p2) (l1 := l1) (l2 := l2) (k := k) (f := g) (by omega) HP.out
        have gb := fun h0 h W1 W2 W3 (hW : Ck.wthS p1 p2 (Ck.at_ cuts (k + 1)) 1 (Ck.at_ dens k) = (W1, W2, W3)) => Ck.mgo_b (len := len) (c := cuts) (d := dens) (n1 := a) (d1 := b) (p1 := p1) (p2 := p2) (l1 := l1) (l2 := l2) (k := k) (f := g) (by omega) HP.out h0 h hW
        rw [CG.out] at ga gb
        have wis := fun (hd : Ck.at_ dens k ≠ 0) => Ck.wthS_is HOP.out HE.out (k := Ck.at_ dens k) (by omega) (by omega)
        have wrw := fun h0 h W (hW : Ck.wthS p1 p2 (Ck.at_ cuts (k + 1)) 1 (Ck.at_ dens k) = W) => Ck.wr_wth (c := cuts) (d := dens) (k := k) HP.out h0 h hW
        have ls := fun v => Less_any p1 p2 (Ck.at_ cuts (k + 1)) 1 HOP.out HE.out v
        generalize hce : Ck.at_ cuts (k + 1) = ce at *
        generalize Ck.at_ cuts k = cb at *
        generalize hdd : Ck.at_ dens k = dd at *
        have HCE := Lib.hid hce; have HDD := Lib.hid hdd; clear hce hdd; have LAT := Lib.hid lat; have WO := Lib.hid wo; have GA := Lib.hid ga; have GB' := Lib.hid gb; have WIS := Lib.hid wis; have WRW := Lib.hid wrw; clear lat wo ga gb wis wrw
        have ik : (0 : Int) ≤ (k : Int) := by omega
        have cB00 := B0.c 0 rfl; have cB01 := B0.c 1 rfl; have cB02 := B0.c 2 rfl; have cB20 := B2.c 0 rfl; have cB21 := B2.c 1 rfl; (go_wp2_with fail); refine (rOf_any ce _).mono ?_; rintro e w6 ⟨rfl, hb⟩; clear cB00 cB01 cB02 cB20 cB21; replace hbb := keepB hbb hb; replace B0 := B0.keep hb; replace B1 := B1.keep hb; replace B2 := B2.keep hb; replace B3 := B3.keep hb; replace B8 := B8.keep hb; clear hb; have hp10 := B8.lt; have hsB10 := hbb.size
        go_upto_region 10 with fail
        refine at_worldQ (fun v => Below w.heap.size w v ∧ BK v (w.heap.size) [.int .i64 len, .slice (some ⟨bk, ok, none⟩) (m + 1) ck, .slice (some ⟨bz, oz, none⟩) m cz] ∧ BK v (w.heap.size + 1) [.int .i64 a, .int .i64 b] ∧ BK v (w.heap.size + 2) [.int .i64 l1, .int .i64 l2] ∧ BK v (w.heap.size + 3) [.int .i64 0, .int .i64 0] ∧ BK v (pB8) [.int .i64 p1, .int .i64 p2] ∧ BK v w6.heap.size [.int .i64 ce, .int .i64 1]) ⟨below_al hbb _, B0.al _, B1.al _, B2.al _, B3.al _, B8.al _, BK.new _ _ _⟩ (fun VB10 hS => ?_); clear hbb B0 B1 B2 B3 B8; obtain ⟨hbb, B0, B1, B2, B3, B8, B10⟩ := hS; obtain ⟨pB10, hpB10⟩ : ∃ z, w6.heap.size = z := ⟨_, rfl⟩; rw [hpB10] at B10 hsB10 hp10 ⊢; clear hpB10
        cases hls : decide (Rp.q p1 p2 < Rp.q ce 1)
        · rw [hls] at ls
          have LS := Lib.hid ls; have hnl := of_decide_eq_false hls; clear ls hls; have cB80 := B8.c 0 rfl; have cB81 := B8.c 1 rfl; have cB100 := B10.c 0 rfl; have cB101 := B10.c 1 rfl; (go_wp2_with fail); refine (LS.out _).mono ?_; rintro e w7 ⟨rfl, hb⟩; clear cB80 cB81 cB100 cB101; replace hbb := keepB hbb hb; replace B0 := B0.keep hb; replace B1 := B1.keep hb; replace B2 := B2.keep hb; replace B3 := B3.keep hb; replace B8 := B8.keep hb; replace B10 := B10.keep hb; clear hb; have cB80 := B8.c 0 rfl; have cB81 := B8.c 1 rfl; have cB100 := B10.c 0 rfl; have cB101 := B10.c 1 rfl; (go_wp2_with fail); refine (LAT.out _).mono ?_; rintro e w8 ⟨rfl, hb⟩; clear cB80 cB81 cB100 cB101; replace hbb := keepB hbb hb; replace B0 := B0.keep hb; replace B1 := B1.keep hb; replace B2 := B2.keep hb; replace B3 := B3.keep hb; replace B8 := B8.keep hb; replace B10 := B10.keep hb; clear hb; have cB80 := B8.c 0 rfl; have cB81 := B8.c 1 rfl; have f0 := B8.f 0 rfl; have f1 := B8.f 1 rfl; obtain ⟨⟨s1, s2⟩, hs⟩ : ∃ z, Ck.mxS a b ce 1 = z := ⟨_, rfl⟩; rw [hs]; (go_wp2_with fail)
          go_roundw
          case rel => exact ⟨k + 1, l1, l2, s1, s2, by omega, by go_num, by rw [HCE.out]; exact hs, .inr ⟨hv1, hl0, by rw [hgk]; exact (GA.out (.inr hnl)).symm⟩, HLO.out, below_set (below_set hbb (by omega) _) (by omega) _, (B0.far (by omega) _ _).far (by omega) _ _, (B1.far (by omega) _ _).far (by omega) _ _, (B2.far (by omega) _ _).far (by omega) _ _, (B3.far (by omega) _ _).far (by omega) _ _, (B8.set 0 _).set 1 _⟩
          case measure => (simp [intOf] <;> omega)
        · rw [hls] at ls
          have LS := Lib.hid ls; have hyl := of_decide_eq_true hls; clear ls hls; have cB80 := B8.c 0 rfl; have cB81 := B8.c 1 rfl; have cB100 := B10.c 0 rfl; have cB101 := B10.c 1 rfl; (go_wp2_with fail); refine (LS.out _).mono ?_; rintro e w7 ⟨rfl, hb⟩; clear cB80 cB81 cB100 cB101; replace hbb := keepB hbb hb; replace B0 := B0.keep hb; replace B1 := B1.keep hb; replace B2 := B2.keep hb; replace B3 := B3.keep hb; replace B8 := B8.keep hb; replace B10 := B10.keep hb; clear hb; have c3 := CD.out k hlt _ hbb; rw [HDD.out] at c3
          by_cases hd0 : dd = 0
          · subst hd0
            have cB00 := B0.c 0 rfl; have cB01 := B0.c 1 rfl; have cB02 := B0.c 2 rfl; have cB80 := B8.c 0 rfl; have cB81 := B8.c 1 rfl; have cB100 := B10.c 0 rfl; have cB101 := B10.c 1 rfl; (go_wp2_with fail); refine (LAT.out _).mono ?_; rintro e w8 ⟨rfl, hb⟩; clear cB80 cB81 cB100 cB101; replace hbb := keepB hbb hb; replace B0 := B0.keep hb; replace B1 := B1.keep hb; replace B2 := B2.keep hb; replace B3 := B3.keep hb; replace B8 := B8.keep hb; replace B10 := B10.keep hb; clear hb; have cB80 := B8.c 0 rfl; have cB81 := B8.c 1 rfl; have f0 := B8.f 0 rfl; have f1 := B8.f 1 rfl; obtain ⟨⟨s1, s2⟩, hs⟩ : ∃ z, Ck.mxS a b ce 1 = z := ⟨_, rfl⟩; rw [hs]; (go_wp2_with fail)
            go_roundw
            case rel => exact ⟨k + 1, l1, l2, s1, s2, by omega, by go_num, by rw [HCE.out]; exact hs, .inr ⟨hv1, hl0, by rw [hgk]; exact (GA.out (.inl (by simp))).symm⟩, HLO.out, below_set (below_set hbb (by omega) _) (by omega) _, (B0.far (by omega) _ _).far (by omega) _ _, (B1.far (by omega) _ _).far (by omega) _ _, (B2.far (by omega) _ _).far (by omega) _ _, (B3.far (by omega) _ _).far (by omega) _ _, (B8.set 0 _).set 1 _⟩
            case measure => (simp [intOf] <;> omega)
          · have hd1 : (dd == 0) = false := by simp [hd0]
            obtain ⟨⟨W1, W2, W3⟩, hW⟩ : ∃ z, Ck.wthS p1 p2 ce 1 dd = z := ⟨_, rfl⟩; have gb := GB'.out hd0 hyl W1 W2 W3 hW; have wo := WO.out; rw [WRW.out hd0 hyl _ hW] at wo; dsimp only at wo; have wis := WIS.out hd0; rw [hW] at wis
            have hdr : 1 ≤ dd := by omega
            clear hW; have WO2 := Lib.hid wo; have GB2 := Lib.hid gb; clear wo gb GB' WIS WRW WO GA; have cB00 := B0.c 0 rfl; have cB01 := B0.c 1 rfl; have cB02 := B0.c 2 rfl; clear cB00 cB01 cB02; have cB00 := B0.c 0 rfl; have cB01 := B0.c 1 rfl; have cB02 := B0.c 2 rfl; have cB80 := B8.c 0 rfl; have cB81 := B8.c 1 rfl; have cB100 := B10.c 0 rfl; have cB101 := B10.c 1 rfl; (go_wp2_with fail); refine (WO2.out _ hbb).mono ?_; rintro e w8 ⟨rfl, hb⟩; clear cB00 cB01 cB02 cB80 cB81 cB100 cB101; replace hbb := keepB hbb hb; replace B0 := B0.keep hb; replace B1 := B1.keep hb; replace B2 := B2.keep hb; replace B3 := B3.keep hb; replace B8 := B8.keep hb; replace B10 := B10.keep hb; clear hb; have hpW := B10.lt; have hsBW := hbb.size
            go_upto_region 13 with fail
            refine at_worldQ (fun v => Below w.heap.size w v ∧ BK v (w.heap.size) [.int .i64 len, .slice (some ⟨bk, ok, none⟩) (m + 1) ck, .slice (some ⟨bz, oz, none⟩) m cz] ∧ BK v (w.heap.size + 1) [.int .i64 a, .int .i64 b] ∧ BK v (w.heap.size + 2) [.int .i64 l1, .int .i64 l2] ∧ BK v (w.heap.size + 3) [.int .i64 0, .int .i64 0] ∧ BK v (pB8) [.int .i64 p1, .int .i64 p2] ∧ BK v (pB10) [.int .i64 ce, .int .i64 1] ∧ BK v w8.heap.size [.int .i64 W1, .int .i64 W2]) ⟨below_al hbb _, B0.al _, B1.al _, B2.al _, B3.al _, B8.al _, B10.al _, BK.new _ _ _⟩ (fun VBW hS => ?_); clear hbb B0 B1 B2 B3 B8 B10; obtain ⟨hbb, B0, B1, B2, B3, B8, B10, BW⟩ := hS; obtain ⟨pBW, hpBW⟩ : ∃ z, w8.heap.size = z := ⟨_, rfl⟩; rw [hpBW] at BW hsBW hpW ⊢; clear hpBW
            rcases wis with ⟨hW3, hWo, hWq⟩ | hWe
            · (try dsimp only at hW3 hWo)
              subst hW3; have gb := GB2.out; rw [if_neg (by decide)] at gb
              have lw := fun v => Less_any W1 W2 l1 l2 hWo HLO.out v
              by_cases hwl : Rp.q W1 W2 < Rp.q l1 l2
              · rw [decide_eq_true hwl] at lw
                rw [if_neg (fun h => h hwl)] at gb
                have sb := fun v => rSub_any l1 l2 W1 W2 v (by have := HLO.out.2.2.1; omega) (by have := HLO.out.2.2.2.1; omega) (by have := HLO.out.1; omega) (by have := HLO.out.2.1; omega) (by have := hWo.2.2.1; omega) (by have := hWo.2.2.2.1; omega) (by have := hWo.1; omega) (by have := hWo.2.1; omega)
                have hsc := Rp.ofQ_cases (Rp.q l1 l2 - Rp.q W1 W2); rw [← Rp.subS_ok HLO.out hWo] at hsc; obtain ⟨⟨s1, s2, s3⟩, hs⟩ : ∃ z, Rp.subS l1 l2 W1 W2 = z := ⟨_, rfl⟩; rw [hs] at sb gb hsc; dsimp only at sb gb hsc; have LW := Lib.hid lw; have SB := Lib.hid sb; have HSC := Lib.hid hsc; have GB3 := Lib.hid gb; have HWL := Lib.hid hwl; clear lw sb hsc gb hwl hs hWo; have cBW0 := BW.c 0 rfl; have cBW1 := BW.c 1 rfl; have cB20 := B2.c 0 rfl; have cB21 := B2.c 1 rfl; (go_wp2_with fail); refine (LW.out _).mono ?_; rintro e w9 ⟨rfl, hb⟩; clear cBW0 cBW1 cB20 cB21; replace hbb := keepB hbb hb; replace B0 := B0.keep hb; replace B1 := B1.keep hb; replace B2 := B2.keep hb; replace B3 := B3.keep hb; replace B8 := B8.keep hb; replace B10 := B10.keep hb; replace BW := BW.keep hb; clear hb; have cBW0 := BW.c 0 rfl; have cBW1 := BW.c 1 rfl; have cB20 := B2.c 0 rfl; have cB21 := B2.c 1 rfl; (go_wp2_with fail); refine (SB.out _).mono ?_; rintro e w10 ⟨rfl, hb⟩; clear cBW0 cBW1 cB20 cB21; replace hbb := keepB hbb hb; replace B0 := B0.keep hb; replace B1 := B1.keep hb; replace B2 := B2.keep hb; replace B3 := B3.keep hb; replace B8 := B8.keep hb; replace B10 := B10.keep hb; replace BW := BW.keep hb; clear hb; have cB20 := B2.c 0 rfl; have cB21 := B2.c 1 rfl; have f0 := B2.f 0 rfl; have f1 := B2.f 1 rfl
                go_upto_region 21 with fail
                have hsz := hbb.size; have hp10l := B10.lt; have hpWl := BW.lt; refine at_worldQ (fun v => Below w.heap.size w v ∧ BK v (w.heap.size) [.int .i64 len, .slice (some ⟨bk, ok, none⟩) (m + 1) ck, .slice (some ⟨bz, oz, none⟩) m cz] ∧ BK v (w.heap.size + 1) [.int .i64 a, .int .i64 b] ∧ BK v (w.heap.size + 2) [.int .i64 s1, .int .i64 s2] ∧ BK v (w.heap.size + 3) [.int .i64 0, .int .i64 0] ∧ BK v (pB8) [.int .i64 p1, .int .i64 p2] ∧ BK v (pB10) [.int .i64 ce, .int .i64 1] ∧ BK v (pBW) [.int .i64 W1, .int .i64 W2]) ⟨below_set (below_set hbb (by omega) _) (by omega) _, (B0.far (by omega) _ _).far (by omega) _ _, (B1.far (by omega) _ _).far (by omega) _ _, (B2.set 0 _).set 1 _, (B3.far (by omega) _ _).far (by omega) _ _, (B8.far (by omega) _ _).far (by omega) _ _, (B10.far (by omega) _ _).far (by omega) _ _, (BW.far (by omega) _ _).far (by omega) _ _⟩ (fun V9 hS => ?_); clear hbb B0 B1 B2 B3 B8 B10 BW f0 f1 cB20 cB21; obtain ⟨hbb, B0, B1, B2, B3, B8, B10, BW⟩ := hS
                rcases HSC.out with ⟨h3, hso, hsq⟩ | hse
                · (try dsimp only at h3 hso hsq)
                  subst h3; have gb := GB3.out; rw [if_neg (by decide)] at gb
                  have hpos : 0 < s1 := by
                    have e1 : (0 : Rat) < Rp.q s1 s2 := by rw [hsq]; have := HWL.out; grind
                    have e2 := (Rp.q_lt (Rp.Ok_one (F := 0) (by decide) (by decide)) hso).1 (by rw [Rp.q_one]; exact e1); rw [Int.zero_mul, Int.mul_one] at e2; exact e2
                  have GB4 := Lib.hid gb; have HSO := Lib.hid hso; clear gb hso hsq; have cB100 := B10.c 0 rfl; have cB101 := B10.c 1 rfl; have cB80 := B8.c 0 rfl; have cB81 := B8.c 1 rfl; have f0 := B8.f 0 rfl; have f1 := B8.f 1 rfl
                  have hce2 : Ck.mxS a b ce 1 = (ce, 1) := by
                    rw [← MX2.out]
                    unfold Ck.mxS
                    rw [if_pos hyl]
                  have HC2 := Lib.hid hce2; clear hce2; (go_wp2_with fail)
                  go_roundw
                  case rel => exact ⟨k + 1, s1, s2, ce, 1, by omega, by go_num, by rw [HCE.out]; exact HC2.out, .inr ⟨hv1, hpos, by rw [hgk]; exact GB4.out.symm⟩, HSO.out, below_set (below_set hbb (by omega) _) (by omega) _, (B0.far (by omega) _ _).far (by omega) _ _, (B1.far (by omega) _ _).far (by omega) _ _, (B2.far (by omega) _ _).far (by omega) _ _, (B3.far (by omega) _ _).far (by omega) _ _, (B8.set 0 _).set 1 _⟩
                  case measure => (simp [intOf] <;> omega)
                · rw [Prod.mk.injEq, Prod.mk.injEq] at hse
                  obtain ⟨rfl, rfl, rfl⟩ := hse; have gb := GB3.out; rw [if_pos (by decide)] at gb; have hfin := CR.out.trans gb; have HF := Lib.hid hfin; clear gb hfin; have r0 := B3.c 0 rfl; have g0 := B3.f 0 rfl; have r1 := B3.c 1 rfl; have g1 := B3.f 1 rfl; (go_wp2_with fail); exact bodyPost_ret (v := .tuple #[.agg #[.int .i64 0, .int .i64 0], .int .i64 16]) (by simp [results, Tryz.results130, go_sem, r0, r1]) rfl ⟨by rw [HF.out], by repeat (first | exact hbb | refine below_set ?_ (by omega) _)⟩
              · rw [decide_eq_false hwl] at lw
                rw [if_pos hwl] at gb; have o1 : Rp.Ok dd 1 := Rp.Ok_one (by omega) (by omega)
                have dv := fun v => rDiv_any l1 l2 dd 1 v (by have := HLO.out.2.2.1; omega) (by have := HLO.out.2.2.2.1; omega) (by have := HLO.out.1; omega) (by have := HLO.out.2.1; omega) (by omega) (by omega) (by omega) (by omega)
                have hdc := Rp.ofQ_cases (Rp.q l1 l2 / Rp.q dd 1); rw [← Rp.divS_ok HLO.out o1 (by omega)] at hdc
                unfold Ck.rchS at gb
                obtain ⟨⟨s1, s2, s3⟩, hs⟩ : ∃ z, Rp.divS l1 l2 dd 1 = z := ⟨_, rfl⟩; rw [hs] at dv gb hdc; dsimp only at dv gb hdc; have LW := Lib.hid lw; have DV := Lib.hid dv; have HDC := Lib.hid hdc; have GB3 := Lib.hid gb; clear lw dv hdc gb hwl hs hWo o1; have cBW0 := BW.c 0 rfl; have cBW1 := BW.c 1 rfl; have cB20 := B2.c 0 rfl; have cB21 := B2.c 1 rfl; (go_wp2_with fail); refine (LW.out _).mono ?_; rintro e w9 ⟨rfl, hb⟩; clear cBW0 cBW1 cB20 cB21; replace hbb := keepB hbb hb; replace B0 := B0.keep hb; replace B1 := B1.keep hb; replace B2 := B2.keep hb; replace B3 := B3.keep hb; replace B8 := B8.keep hb; replace B10 := B10.keep hb; replace BW := BW.keep hb; clear hb
                go_upto_region 16 with fail
                refine at_worldQ (fun v => Below w.heap.size w v ∧ BK v (w.heap.size) [.int .i64 len, .slice (some ⟨bk, ok, none⟩) (m + 1) ck, .slice (some ⟨bz, oz, none⟩) m cz] ∧ BK v (w.heap.size + 1) [.int .i64 a, .int .i64 b] ∧ BK v (w.heap.size + 2) [.int .i64 l1, .int .i64 l2] ∧ BK v (w.heap.size + 3) [.int .i64 0, .int .i64 0] ∧ BK v (pB8) [.int .i64 p1, .int .i64 p2] ∧ BK v (pB10) [.int .i64 ce, .int .i64 1] ∧ BK v (pBW) [.int .i64 W1, .int .i64 W2]) ⟨hbb, B0, B1, B2, B3, B8, B10, BW⟩ (fun V8 hS => ?_); clear hbb B0 B1 B2 B3 B8 B10 BW; obtain ⟨hbb, B0, B1, B2, B3, B8, B10, BW⟩ := hS; have cB00 := B0.c 0 rfl; have cB01 := B0.c 1 rfl; have cB02 := B0.c 2 rfl; have cB20 := B2.c 0 rfl; have cB21 := B2.c 1 rfl; have c3 := CD.out k hlt _ hbb; rw [HDD.out] at c3; have hsz := hbb.size
                go_cut [13, 14] (fun x z v => ∃ p : Nat, x = .pointer (some ⟨p, 0, none⟩) ∧ z = .int .i64 s3 ∧ V8.heap.size ≤ p ∧ Below V8.heap.size V8 v ∧ BK v p [.int .i64 s1, .int .i64 s2])
                case first =>
                  refine wp_region_held_drew (S := (Below V8.heap.size V8)) (by kernel_rfl) ((Below.refl _ _).drew) (fun hHeld => ?_); refine at_anyH (Below V8.heap.size V8) hHeld (fun wt0 hNew => ?_); clear hHeld; have hHeld := hNew; clear hNew; refine tkm 0 rfl hHeld (fun w hSw => by have kcB00 := keepC hSw cB00; have kcB01 := keepC hSw cB01; have kcB02 := keepC hSw cB02; have kcB20 := keepC hSw cB20; have kcB21 := keepC hSw cB21; have kc3 := keepC hSw c3; go_simp <;> with_reducible rfl) ?_; (try simp only [PPz]); refine tkd 1 ?_; (try simp only [PPz]); refine tkm 2 rfl hHeld (fun w hSw => by have kcB00 := keepC hSw cB00; have kcB01 := keepC hSw cB01; have kcB02 := keepC hSw cB02; have kcB20 := keepC hSw cB20; have kcB21 := keepC hSw cB21; have kc3 := keepC hSw c3; go_simp <;> with_reducible rfl) ?_; (try simp only [PPz]); refine tkd 3 ?_; refine tkd 4 ?_; (try simp only [PPz]); refine tkm 5 rfl hHeld (fun w hSw => by have kcB00 := keepC hSw cB00; have kcB01 := keepC hSw cB01; have kcB02 := keepC hSw cB02; have kcB20 := keepC hSw cB20; have kcB21 := keepC hSw cB21; have kc3 := keepC hSw c3; go_simp <;> with_reducible rfl) ?_; (try simp only [PPz]); refine rdy2 6 11 rfl rfl (fun K hK => ?_) (fun K hK => ?_)
                  ·
                    go_simp; refine (rOf_any dd _).mono ?_; rintro e wt7 ⟨rfl, hb3⟩; (go_wp2_with fail); refine hK.out _ _ (keepB hHeld hb3) (fun hNew => ?_); replace hHeld := hNew; clear hNew hK K hb3; (try simp only [PPz]); refine rdy2 7 11 rfl rfl (fun K hK => ?_) (fun K hK => ?_)
                    ·
                      go_simp; refine (DV.out _).mono ?_; rintro e wt8 ⟨rfl, hb3⟩; (go_wp2_with fail); refine hK.out _ _ (keepB hHeld hb3) (fun hNew => ?_); replace hHeld := hNew; clear hNew hK K hb3; (try simp only [PPz]); refine tkd 8 ?_; refine tkd 9 ?_; refine tkd 10 ?_; (try simp only [PPz]); refine rdy1 11 rfl (fun K hK => ?_); go_simp; refine hK.out _ _ (below_al hHeld _) (fun hNew => ?_); have hd : V8.heap.size ≤ wt8.heap.size := hHeld.size; replace hHeld := hNew; clear hNew hK K; (try simp only [PPz]); refine at_anyH (fun v => Below V8.heap.size V8 v ∧ BK v wt8.heap.size [.int .i64 0, .int .i64 0]) ⟨hHeld, BK.new _ _ _⟩ (fun wt12 hS => ?_); clear hHeld; obtain ⟨hHeld, Bd⟩ := hS; refine rdy1 12 rfl (fun K hK => ?_); have n0 := Bd.c 0 rfl; have f0 := Bd.f 0 rfl; have n1 := Bd.c 1 rfl; have f1 := Bd.f 1 rfl; go_simp; clear n0 f0 n1 f1; refine hK.out _ _ (below_set (below_set hHeld (by omega) _) (by omega) _) (fun hNew => ?_); replace hHeld := hNew; clear hNew hK K; (try simp only [PPz]); refine at_anyH (fun v => Below V8.heap.size V8 v ∧ BK v wt8.heap.size [.int .i64 s1, .int .i64 s2]) ⟨hHeld, ((Bd.set 0 _).set 1 _)⟩ (fun wt13 hS => ?_); clear hHeld Bd; obtain ⟨hHeld, Bd⟩ := hS; refine tkd 13 ?_; (try simp only [PPz]); refine wpAnyH_done (by kernel_rfl) ?_ _; (go_wp2_with fail)
                      go_meet
                      exact ⟨_, rfl, rfl, hd, hHeld, Bd⟩
                    ·
                      go_simp; refine hK.out _ _ (below_al hHeld _) (fun hNew => ?_); have hd : V8.heap.size ≤ wt7.heap.size := hHeld.size; replace hHeld := hNew; clear hNew hK K; (try simp only [PPz]); refine at_anyH (fun v => Below V8.heap.size V8 v ∧ BK v wt7.heap.size [.int .i64 0, .int .i64 0]) ⟨hHeld, BK.new _ _ _⟩ (fun wt15 hS => ?_); clear hHeld; obtain ⟨hHeld, Bd⟩ := hS; refine rdy1 7 rfl (fun K hK => ?_); go_simp; refine (DV.out _).mono ?_; rintro e wt16 ⟨rfl, hb3⟩; (go_wp2_with fail); refine hK.out _ _ (keepB hHeld hb3) (fun hNew => ?_); replace Bd := Bd.keep hb3; replace hHeld := hNew; clear hNew hK K hb3; (try simp only [PPz]); refine tkd 8 ?_; refine tkd 9 ?_; refine tkd 10 ?_; (try simp only [PPz]); refine rdy1 12 rfl (fun K hK => ?_); have n0 := Bd.c 0 rfl; have f0 := Bd.f 0 rfl; have n1 := Bd.c 1 rfl; have f1 := Bd.f 1 rfl; go_simp; clear n0 f0 n1 f1; refine hK.out _ _ (below_set (below_set hHeld (by omega) _) (by omega) _) (fun hNew => ?_); replace hHeld := hNew; clear hNew hK K; (try simp only [PPz]); refine at_anyH (fun v => Below V8.heap.size V8 v ∧ BK v wt7.heap.size [.int .i64 s1, .int .i64 s2]) ⟨hHeld, ((Bd.set 0 _).set 1 _)⟩ (fun wt20 hS => ?_); clear hHeld Bd; obtain ⟨hHeld, Bd⟩ := hS; refine tkd 13 ?_; (try simp only [PPz]); refine wpAnyH_done (by kernel_rfl) ?_ _; (go_wp2_with fail)
                      go_meet
                      exact ⟨_, rfl, rfl, hd, hHeld, Bd⟩
                  ·
                    go_simp; refine hK.out _ _ (below_al hHeld _) (fun hNew => ?_); have hd : V8.heap.size ≤ wt0.heap.size := hHeld.size; replace hHeld := hNew; clear hNew hK K; (try simp only [PPz]); refine at_anyH (fun v => Below V8.heap.size V8 v ∧ BK v wt0.heap.size [.int .i64 0, .int .i64 0]) ⟨hHeld, BK.new _ _ _⟩ (fun wt22 hS => ?_); clear hHeld; obtain ⟨hHeld, Bd⟩ := hS; refine rdy1 6 rfl (fun K hK => ?_); go_simp; refine (rOf_any dd _).mono ?_; rintro e wt23 ⟨rfl, hb3⟩; (go_wp2_with fail); refine hK.out _ _ (keepB hHeld hb3) (fun hNew => ?_); replace Bd := Bd.keep hb3; replace hHeld := hNew; clear hNew hK K hb3; (try simp only [PPz]); refine rdy1 7 rfl (fun K hK => ?_); go_simp; refine (DV.out _).mono ?_; rintro e wt24 ⟨rfl, hb3⟩; (go_wp2_with fail); refine hK.out _ _ (keepB hHeld hb3) (fun hNew => ?_); replace Bd := Bd.keep hb3; replace hHeld := hNew; clear hNew hK K hb3; (try simp only [PPz]); refine tkd 8 ?_; refine tkd 9 ?_; refine tkd 10 ?_; (try simp only [PPz]); refine rdy1 12 rfl (fun K hK => ?_); have n0 := Bd.c 0 rfl; have f0 := Bd.f 0 rfl; have n1 := Bd.c 1 rfl; have f1 := Bd.f 1 rfl; go_simp; clear n0 f0 n1 f1; refine hK.out _ _ (below_set (below_set hHeld (by omega) _) (by omega) _) (fun hNew => ?_); replace hHeld := hNew; clear hNew hK K; (try simp only [PPz]); refine at_anyH (fun v => Below V8.heap.size V8 v ∧ BK v wt0.heap.size [.int .i64 s1, .int .i64 s2]) ⟨hHeld, ((Bd.set 0 _).set 1 _)⟩ (fun wt28 hS => ?_); clear hHeld Bd; obtain ⟨hHeld, Bd⟩ := hS; refine tkd 13 ?_; (try simp only [PPz]); refine wpAnyH_done (by kernel_rfl) ?_ _; (go_wp2_with fail)
                    go_meet
                    exact ⟨_, rfl, rfl, hd, hHeld, Bd⟩
                case rest =>
                obtain ⟨pd, rfl, rfl, hpd, hHeld, BD⟩ := hcut; replace hbb := keepB hbb hHeld; replace B0 := B0.keep hHeld; replace B1 := B1.keep hHeld; replace B2 := B2.keep hHeld; replace B3 := B3.keep hHeld; replace B8 := B8.keep hHeld; replace B10 := B10.keep hHeld; replace BW := BW.keep hHeld; clear hHeld c3 cB00 cB01 cB02 cB20 cB21
                rcases HDC.out with ⟨h3, hso, -⟩ | hse
                · (try dsimp only at h3 hso)
                  subst h3; have gb := GB3.out; rw [if_pos rfl] at gb
                  have ad := fun v => rAdd_any p1 p2 s1 s2 v (by have := HOP.out.2.2.1; omega) (by have := HOP.out.2.2.2.1; omega) (by have := HOP.out.1; omega) (by have := HOP.out.2.1; omega) (by have := hso.2.2.1; omega) (by have := hso.2.2.2.1; omega) (by have := hso.1; omega) (by have := hso.2.1; omega)
                  have hfin := CR.out.trans gb; obtain ⟨⟨t1, t2, t3⟩, ht⟩ : ∃ z, Rp.addS p1 p2 s1 s2 = z := ⟨_, rfl⟩; rw [ht] at ad hfin; dsimp only at ad; have AD := Lib.hid ad; have HF := Lib.hid hfin; clear gb ad hfin ht hso; have cB80 := B8.c 0 rfl; have cB81 := B8.c 1 rfl; have cBD0 := BD.c 0 rfl; have cBD1 := BD.c 1 rfl; (go_wp2_with fail); refine (AD.out _).mono ?_; rintro e w10 ⟨rfl, hb⟩; clear cB80 cB81 cBD0 cBD1; replace hbb := keepB hbb hb; replace B0 := B0.keep hb; replace B1 := B1.keep hb; replace B2 := B2.keep hb; replace B3 := B3.keep hb; replace B8 := B8.keep hb; replace B10 := B10.keep hb; replace BW := BW.keep hb; replace BD := BD.keep hb; clear hb; have r0 := B3.c 0 rfl; have g0 := B3.f 0 rfl; have r1 := B3.c 1 rfl; have g1 := B3.f 1 rfl; (go_wp2_with fail); exact bodyPost_ret (v := .tuple #[.agg #[.int .i64 t1, .int .i64 t2], .int .i64 t3]) (by simp [results, Tryz.results130, go_sem, r0, r1]) rfl ⟨by rw [HF.out], by repeat (first | exact hbb | refine below_set ?_ (by omega) _)⟩
                · rw [Prod.mk.injEq, Prod.mk.injEq] at hse
                  obtain ⟨rfl, rfl, rfl⟩ := hse; have gb := GB3.out; rw [if_neg (by decide)] at gb; have hfin := CR.out.trans gb; have HF := Lib.hid hfin; clear gb hfin; have r0 := B3.c 0 rfl; have g0 := B3.f 0 rfl; have r1 := B3.c 1 rfl; have g1 := B3.f 1 rfl; (go_wp2_with fail); exact bodyPost_ret (v := .tuple #[.agg #[.int .i64 0, .int .i64 0], .int .i64 16]) (by simp [results, Tryz.results130, go_sem, r0, r1]) rfl ⟨by rw [HF.out], by repeat (first | exact hbb | refine below_set ?_ (by omega) _)⟩
            · rw [Prod.mk.injEq, Prod.mk.injEq] at hWe
              obtain ⟨rfl, rfl, rfl⟩ := hWe; have gb := GB2.out; rw [if_pos (by decide)] at gb; have hfin := CR.out.trans gb; have HF := Lib.hid hfin; clear gb hfin; have r0 := B3.c 0 rfl; have g0 := B3.f 0 rfl; have r1 := B3.c 1 rfl; have g1 := B3.f 1 rfl; (go_wp2_with fail); exact bodyPost_ret (v := .tuple #[.agg #[.int .i64 0, .int .i64 0], .int .i64 16]) (by simp [results, Tryz.results130, go_sem, r0, r1]) rfl ⟨by rw [HF.out], by repeat (first | exact hbb | refine below_set ?_ (by omega) _)⟩
      · obtain rfl : k = m := by omega
        have i1 : ¬ (k : Int) < (k : Int) := by omega
        rw [Nat.sub_self] at hg; have hfin := hR.trans hg.symm
        unfold Ck.mgo at hfin
        have HF := Lib.hid hfin; clear hg hfin hR hp hlo; have cB00 := B0.c 0 rfl; have cB01 := B0.c 1 rfl; have cB02 := B0.c 2 rfl; have cB20 := B2.c 0 rfl; have cB21 := B2.c 1 rfl; have r0 := B3.c 0 rfl; have g0 := B3.f 0 rfl; have r1 := B3.c 1 rfl; have g1 := B3.f 1 rfl; (go_wp2_with fail); exact bodyPost_ret (v := .tuple #[.agg #[.int .i64 0, .int .i64 0], .int .i64 6]) (by simp [results, Tryz.results130, go_sem, r0, r1]) rfl ⟨by rw [HF.out], by repeat (first | exact hbb | refine below_set ?_ (by omega) _)⟩
    · obtain ⟨rfl, rfl⟩ : v1 = 0 ∧ l1 = 0 := hg.elim id (fun h => absurd h.2.1 hl0)
      have hz : k < m ∨ ¬ k < m := by omega
      have hfin := HZ.out rfl; have HF := Lib.hid hfin; clear hg hfin hp hlo; have cB00 := B0.c 0 rfl; have cB01 := B0.c 1 rfl; have cB02 := B0.c 2 rfl; have cB10 := B1.c 0 rfl; have cB11 := B1.c 1 rfl; have cB20 := B2.c 0 rfl; have cB21 := B2.c 1 rfl
      rcases hz with hz | hz
      · have i1 : (k : Int) < (m : Int) := by omega
        have r0 := B3.c 0 rfl; have g0 := B3.f 0 rfl; have r1 := B3.c 1 rfl; have g1 := B3.f 1 rfl; (go_wp2_with fail); exact bodyPost_ret (v := .tuple #[.agg #[.int .i64 a, .int .i64 b], .int .i64 0]) (by simp [results, Tryz.results130, go_sem, r0, r1]) rfl ⟨by rw [HF.out], by repeat (first | exact hbb | refine below_set ?_ (by omega) _)⟩
      · have i1 : ¬ (k : Int) < (m : Int) := by omega
        have r0 := B3.c 0 rfl; have g0 := B3.f 0 rfl; have r1 := B3.c 1 rfl; have g1 := B3.f 1 rfl; (go_wp2_with fail); exact bodyPost_ret (v := .tuple #[.agg #[.int .i64 a, .int .i64 b], .int .i64 0]) (by simp [results, Tryz.results130, go_sem, r0, r1]) rfl ⟨by rw [HF.out], by repeat (first | exact hbb | refine below_set ?_ (by omega) _)⟩
end Go.Proofs.YtniagnldiegamaaGreat

