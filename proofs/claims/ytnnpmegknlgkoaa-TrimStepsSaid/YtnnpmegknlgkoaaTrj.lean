/- Package trim: Round. -/
import Derived.Test.YtnnpmegknlgkoaaTri
import Derived.Test.YtnnpmegknlgkoaaTrg
namespace Go.Proofs.Ytnnpmegknlgkoaa
open Go.RowKit
/-- What Round gives where a round goes well. -/
def RdQ (D : List CkD) (T : Ch.Tn) (L : List Qr) (w : World) (e : Ending) (w' : World) : Prop :=
  ∃ (A : Option Addr) (m ca : Nat) (Q : Option Addr) (nq cq : Nat) (cs : List CkR) (lo : Nat) (Wd : World), e = .returned (.tuple #[.agg #[.slice A m ca, .slice Q nq cq], .agg #[.int .i64 (T.ag : Nat), .int .i64 T.a, .int .i64 T.b, .int .i64 T.x, .int .i64 T.y, .int .i64 (T.t : Nat)], .int .i64 0]) ∧ Below w.heap.size w w' ∧ m = cs.length ∧ nq = L.length ∧ cs.map Ak.dat = D ∧ FD Wd lo A ca cs Q cq L ∧ Mid lo Wd w' ∧ ∀ k, lo ≤ k → k < Wd.heap.size → w.heap.size ≤ k
set_option linter.unusedSimpArgs false in
set_option maxHeartbeats 8000000 in
set_option maxRecDepth 100000 in
theorem tmround_any (D : List CkD) (n len : Int) (s : Ch.St) (A : Option Addr) (ca : Nat) (cs : List CkR) (Q : Option Addr) (cq g cg : Nat) (w : World) (h : IsCs w A cs) (hq : IsQs w Q s.L) (hD : cs.map Ak.dat = D) (hc : Ak.chkS D 0 = 0) (hn : n = (D.length : Nat)) (hlen : (Ak.dAt D 0).1 = len)
    (hB : BK w g ((s.l.map fun (j : Nat) => (j : Int)).map (Value.int .i64))) (h1 : 1 ≤ s.l.length) (h6 : s.l.length ≤ 6) (G : Ch.SGood D n s) (hin : ∀ k, k + 1 < s.l.length → s.l.getD k 0 < s.l.getD (k + 1) 0) (hok : Rp.Ok s.a s.b) (ha : 0 ≤ s.a) (hlt : Rp.q s.a s.b < Rp.q len 1) (hol : Rp.Ok len 1) :
    Calls Try.prog 38 #[.agg #[.slice A cs.length ca, .slice Q s.L.length cq], .slice (some ⟨g, 0, none⟩) s.l.length cg, .agg #[.int .i64 s.a, .int .i64 s.b]] w (RdQ D (Ch.rtn D n len s) (Ch.rnx D n len s).L w) := by
  have hgd := Ak.chkS_good hc
  have hcl : cs.length = D.length := by rw [← hD, List.length_map]
  have hc0 : (Ak.cat cs 0).len = len := by
    rw [← hlen, ← hD, Ak.dAt_map cs (by have := hgd.l0; omega)]
    rfl
  have hlL : s.L.length ≤ 2000 := by have := G.lg; omega
  have hgc : ∀ k, k < s.l.length → w.cell? ⟨g, 0 + k, none⟩ = some (.int .i64 ((s.l.getD k 0 : Nat) : Int)) := fun k hk => by
    have := (bk_int hB (k := k) (by simpa using hk)).1
    rw [Nat.zero_add, this]
    simp [hk]
  have hal : ∀ k, k < s.l.length → s.l.getD k 0 < cs.length := fun k hk => by
    rw [hcl]
    exact G.ag _ (Ch.getD_mem hk)
  have ck := fun v (hv : Below w.heap.size w v) => askCheck_any A ca cs Q s.L.length cq v hq.len (h.keep hv)
  rw [hD, Ch.chk_up hc hlL] at ck
  have ar := fun v (hv : Below w.heap.size w v) => tmare_any A cs.length ca Q s.L.length cq g 0 cg s.l v (by have := hgd.l1; omega) h1 h6 (fun k hk => keepC hv (hgc k hk)) hal hin
  have lb := fun v (hv : Below w.heap.size w v) => tmlies_any A ca cs Q s.L.length cq s.a s.b len v (h.keep hv) (by have := hgd.l0; omega) hc0 hok ha hol hlt
  have cop := fun v (hv : Below w.heap.size w v) => tmcopied_any D A ca cs Q s.L cq v (h.keep hv) (hq.keep hv) hD hc (by omega)
  have plx := fun A2 ca2 cs2 Q2 cq2 lo Wd v (hfd : FD Wd lo A2 ca2 cs2 Q2 cq2 s.L) (hm : Mid lo Wd v) (hD2 : cs2.map Ak.dat = D) (hv : Below w.heap.size w v) => tmplayedx_any D n len s A2 ca2 cs2 Q2 cq2 g cg lo Wd v hfd hm hD2 hc hn hlen (hB.keep hv) h1 h6 G
  obtain ⟨o1, ho1⟩ : ∃ z, (Ch.rout D n s).1 = z := ⟨_, rfl⟩
  obtain ⟨o2, ho2⟩ : ∃ z, (Ch.rout D n s).2.1 = z := ⟨_, rfl⟩
  obtain ⟨oL, hoL⟩ : ∃ z, (Ch.rout D n s).2.2 = z := ⟨_, rfl⟩
  obtain ⟨tx, htx⟩ : ∃ z, (Ch.rto D n len s).1 = z := ⟨_, rfl⟩
  obtain ⟨ty, hty⟩ : ∃ z, (Ch.rto D n len s).2 = z := ⟨_, rfl⟩
  unfold PxQ at plx
  unfold RdQ Ch.rtn Ch.rnx
  dsimp only
  simp only [ho1, ho2, hoL, htx, hty] at plx ⊢
  obtain ⟨sa, hsa⟩ : ∃ z, s.a = z := ⟨_, rfl⟩
  obtain ⟨sb, hsb⟩ : ∃ z, s.b = z := ⟨_, rfl⟩
  obtain ⟨nl, hnl⟩ : ∃ z, s.l.length = z := ⟨_, rfl⟩
  obtain ⟨nq, hnq⟩ : ∃ z, s.L.length = z := ⟨_, rfl⟩
  obtain ⟨nc, hnc⟩ : ∃ z, cs.length = z := ⟨_, rfl⟩
  rw [hsa, hsb, hnl, hnq] at plx
  rw [hsa, hsb, hnq, hnc] at lb
  rw [hnl, hnq, hnc] at ar
  rw [hnq, hnc] at ck cop
  rw [hsa, hsb, hnl, hnq, hnc]
  have CK := Lib.hid ck
  have AR := Lib.hid ar
  have LB := Lib.hid lb
  have COP := Lib.hid cop
  have PLX := Lib.hid plx
  have HNQ := Lib.hid hnq
  clear ck ar lb cop plx hgd hcl hc0 hlL hgc hal h hq hD hc hn hlen hB h1 h6 G hin hok ha hlt hol ho1 ho2 hoL htx hty hsa hsb hnl hnq hnc
  go_enter Try.func38, Try.ntmps38
  go_upto_region 1 with fail
  refine at_worldQ (fun v => Below w.heap.size w v ∧ BK v (w.heap.size) [.slice A nc ca, .slice Q nq cq] ∧ BK v (w.heap.size + 1) [.int .i64 sa, .int .i64 sb] ∧ BK v (w.heap.size + 2) [.slice none 0 0, .slice none 0 0] ∧ BK v (w.heap.size + 3) [.int .i64 0, .int .i64 0, .int .i64 0, .int .i64 0, .int .i64 0, .int .i64 0] ∧ v.heap.size = w.heap.size + 4) ⟨(below_al (below_al (below_al (below_al (Below.refl _ _) _) _) _) _), (by have b := ((((BK.new w [.slice A nc ca, .slice Q nq cq] 49).al (.cells #[.int .i64 sa, .int .i64 sb] 23)).al (.cells #[.slice none 0 0, .slice none 0 0] 49)).al (.cells #[.int .i64 0, .int .i64 0, .int .i64 0, .int .i64 0, .int .i64 0, .int .i64 0] 75)); simpa only [World.size_alloc] using b), (by have b := (((BK.new (w.alloc (.cells #[.slice A nc ca, .slice Q nq cq] 49)) [.int .i64 sa, .int .i64 sb] 23).al (.cells #[.slice none 0 0, .slice none 0 0] 49)).al (.cells #[.int .i64 0, .int .i64 0, .int .i64 0, .int .i64 0, .int .i64 0, .int .i64 0] 75)); simpa only [World.size_alloc] using b), (by have b := ((BK.new ((w.alloc (.cells #[.slice A nc ca, .slice Q nq cq] 49)).alloc (.cells #[.int .i64 sa, .int .i64 sb] 23)) [.slice none 0 0, .slice none 0 0] 49).al (.cells #[.int .i64 0, .int .i64 0, .int .i64 0, .int .i64 0, .int .i64 0, .int .i64 0] 75)); simpa only [World.size_alloc] using b), (by have b := (BK.new (((w.alloc (.cells #[.slice A nc ca, .slice Q nq cq] 49)).alloc (.cells #[.int .i64 sa, .int .i64 sb] 23)).alloc (.cells #[.slice none 0 0, .slice none 0 0] 49)) [.int .i64 0, .int .i64 0, .int .i64 0, .int .i64 0, .int .i64 0, .int .i64 0] 75); simpa only [World.size_alloc] using b), by simp only [World.size_alloc]⟩ (fun V hS => ?_)
  obtain ⟨hbb, B0, B1, B2, B3, hVs⟩ := hS
  have p0 := B0.c 0 rfl
  have p1 := B0.c 1 rfl
  have y0 := B1.c 0 rfl
  have y1 := B1.c 1 rfl
  go_wp2_with fail
  refine (CK.out _ hbb).mono ?_
  rintro e w1 ⟨rfl, hb⟩
  replace hbb := keepB hbb hb
  replace B0 := B0.keep hb
  replace B1 := B1.keep hb
  replace B2 := B2.keep hb
  replace B3 := B3.keep hb
  have hv1 := hb.size
  clear hb p0 p1 y0 y1
  have p0 := B0.c 0 rfl
  have p1 := B0.c 1 rfl
  have y0 := B1.c 0 rfl
  have y1 := B1.c 1 rfl
  go_wp2_with fail
  refine (AR.out _ hbb).mono ?_
  rintro e w2 ⟨rfl, hb⟩
  replace hbb := keepB hbb hb
  replace B0 := B0.keep hb
  replace B1 := B1.keep hb
  replace B2 := B2.keep hb
  replace B3 := B3.keep hb
  have hv2 := hb.size
  clear hb p0 p1 y0 y1
  have p0 := B0.c 0 rfl
  have p1 := B0.c 1 rfl
  have y0 := B1.c 0 rfl
  have y1 := B1.c 1 rfl
  go_wp2_with fail
  refine (LB.out _ hbb).mono ?_
  rintro e w3 ⟨rfl, hb⟩
  replace hbb := keepB hbb hb
  replace B0 := B0.keep hb
  replace B1 := B1.keep hb
  replace B2 := B2.keep hb
  replace B3 := B3.keep hb
  have hv3 := hb.size
  clear hb p0 p1 y0 y1
  go_upto_region 6 with fail
  refine at_worldQ (fun v => Below w.heap.size w v ∧ BK v w.heap.size [.slice A nc ca, .slice Q nq cq] ∧ BK v (w.heap.size + 1) [.int .i64 sa, .int .i64 sb] ∧ BK v (w.heap.size + 2) [.slice none 0 0, .slice none 0 0] ∧ BK v (w.heap.size + 3) [.int .i64 0, .int .i64 0, .int .i64 0, .int .i64 0, .int .i64 0, .int .i64 0] ∧ w.heap.size ≤ v.heap.size ∧ w.heap.size + 4 ≤ v.heap.size) ⟨hbb, B0, B1, B2, B3, by omega, by omega⟩ (fun V6 hS => ?_)
  clear hbb B0 B1 B2 B3
  obtain ⟨hbb, B0, B1, B2, B3, hBV, hBV4⟩ := hS
  have p0 := B0.c 0 rfl
  have p1 := B0.c 1 rfl
  have y0 := B1.c 0 rfl
  have y1 := B1.c 1 rfl
  refine wp_region_noPanic ?_
  refine wp_region_held_drew (S := (GB (fun _ => False) V6)) (by kernel_rfl) ((GB.refl _ _).drew) (fun hHeld => ?_)
  refine at_anyH (fun v => GB (fun _ => False) V6 v) hHeld (fun wr0 hNew => ?_)
  clear hHeld
  have hHeld := hNew
  clear hNew
  refine wpAnyH_take (i := 0) (oi := _) (v := ?vr1) rfl (by kernel_rfl) (by kernel_rfl) (by kernel_rfl) (fun _ _ _ h => h) (Or.inl ⟨by kernel_rfl, ?hyr1⟩) hHeld ?restr1
  case hyr1 => (intro w hSw; have kp0 := hSw.cell (fun h => h) p0; have kp1 := hSw.cell (fun h => h) p1; have ky0 := hSw.cell (fun h => h) y0; have ky1 := hSw.cell (fun h => h) y1; go_simp; first | done | (with_reducible rfl))
  try simp only [Act.put, PA, PB]
  refine wpAnyH_take (i := 2) (oi := _) (v := ?vr2) rfl (by kernel_rfl) (by kernel_rfl) (by kernel_rfl) (fun _ _ _ h => h) (Or.inl ⟨by kernel_rfl, ?hyr2⟩) hHeld ?restr2
  case hyr2 => (intro w hSw; go_simp; first | done | (with_reducible rfl))
  try simp only [Act.put, PA, PB]
  refine wpAnyH_take (i := 3) (oi := _) (v := ?vr3) rfl (by kernel_rfl) (by kernel_rfl) (by kernel_rfl) (fun _ _ _ h => h) (Or.inl ⟨by kernel_rfl, ?hyr3⟩) hHeld ?restr3
  case hyr3 => (intro w hSw; have kp0 := hSw.cell (fun h => h) p0; have kp1 := hSw.cell (fun h => h) p1; have ky0 := hSw.cell (fun h => h) y0; have ky1 := hSw.cell (fun h => h) y1; go_simp; first | done | (with_reducible rfl))
  try simp only [Act.put, PA, PB]
  refine wpAnyH_ready (rs := [1, 8]) (by kernel_rfl) (by simp) (AllReadyH.cons (o := _) rfl (fun K hK => ?_) (AllReadyH.cons (o := _) rfl (fun K hK => ?_) AllReadyH.nil))
  ·
    go_simp
    refine (COP.out _ (hHeld.toBelow hbb (fun k hk => hk.elim) hBV)).mono ?_
    rintro e wr4 ⟨A2, m2, ca2, Q2, nq2, cq2, cs2, rfl, hb3, rfl, hnq2, hd2, hfd2⟩
    have hlow : w.heap.size + 4 ≤ wr0.heap.size := Nat.le_trans hBV4 hHeld.size
    have hn3 := hnq2.trans HNQ.out
    clear hnq2
    subst hn3
    obtain ⟨lo, hlo⟩ : ∃ z, wr0.heap.size = z := ⟨_, rfl⟩
    obtain ⟨Wc, hWc⟩ : ∃ z, wr4 = z := ⟨_, rfl⟩
    have HM : Mid lo Wc wr4 := by
      subst hWc
      exact Mid.refl _ _
    have hfd3 : FD Wc lo A2 ca2 cs2 Q2 cq2 s.L := by
      rw [← hWc, ← hlo]
      exact hfd2
    have hlb : lo ≤ Wc.heap.size := by
      rw [← hlo, ← hWc]
      exact hb3.size
    have hlo1 : wr0.heap.size ≤ lo := by omega
    have hlo2 : lo ≤ wr0.heap.size := by omega
    have pl2 := fun v hm hv => PLX.out A2 ca2 cs2 Q2 cq2 lo Wc v hfd3 hm hd2 hv
    obtain ⟨cl2, hcl2⟩ : ∃ z, cs2.length = z := ⟨_, rfl⟩
    rw [hcl2] at pl2 ⊢
    have PL2 := Lib.hid pl2
    clear pl2 hfd2 hfd3 hd2 hcl2 hWc hlo
    go_wp2_with fail
    refine hK.out _ _ (hHeld.below hb3) (fun hNew => ?_)
    clear hb3
    clear hHeld hK K
    have hHeld := hNew
    clear hNew
    try simp only [Act.put, PA, PB]
    refine wpAnyH_ready (rs := [4, 8]) (by kernel_rfl) (by simp) (AllReadyH.cons (o := _) rfl (fun K hK => ?_) (AllReadyH.cons (o := _) rfl (fun K hK => ?_) AllReadyH.nil))
    ·
      go_simp
      refine (PL2.out _ HM (hHeld.toBelow hbb (fun k hk => hk.elim) hBV)).mono ?_
      rintro e wr5 ⟨A3, m3, ca3, Q3, nq3, cq3, cs3, lo3, Wd3, rfl, hb3, hm3, hnq3, hd3, hfd3, hmd3, hsp3⟩
      have hge3 : ∀ k, lo3 ≤ k → k < Wd3.heap.size → w.heap.size + 4 ≤ k := fun k h1 h2 => by
        have := hsp3 k h1 h2
        have := hHeld.size
        omega
      have HF3 := Lib.hid hfd3
      have HM3 := Lib.hid hm3
      have HN3 := Lib.hid hnq3
      have HD3 := Lib.hid hd3
      have HG3 := Lib.hid hge3
      clear hm3 hnq3 hd3 hge3 hfd3 hsp3
      go_wp2_with fail
      refine hK.out _ _ (hHeld.below hb3) (fun hNew => ?_)
      replace HM := HM.call hb3
      clear hb3
      clear hHeld hK K
      have hHeld := hNew
      clear hNew
      try simp only [Act.put, PA, PB]
      refine wpAnyH_take (i := 5) (oi := _) (v := ?vr6) rfl (by kernel_rfl) (by kernel_rfl) (by kernel_rfl) (fun _ _ _ h => h) (Or.inl ⟨by kernel_rfl, ?hyr6⟩) hHeld ?restr6
      case hyr6 => (intro w hSw; go_simp; first | done | (with_reducible rfl))
      try simp only [Act.put, PA, PB]
      refine wpAnyH_take (i := 6) (oi := _) (v := ?vr7) rfl (by kernel_rfl) (by kernel_rfl) (by kernel_rfl) (fun _ _ _ h => h) (Or.inl ⟨by kernel_rfl, ?hyr7⟩) hHeld ?restr7
      case hyr7 => (intro w hSw; go_simp; first | done | (with_reducible rfl))
      try simp only [Act.put, PA, PB]
      refine wpAnyH_take (i := 7) (oi := _) (v := ?vr8) rfl (by kernel_rfl) (by kernel_rfl) (by kernel_rfl) (fun _ _ _ h => h) (Or.inl ⟨by kernel_rfl, ?hyr8⟩) hHeld ?restr8
      case hyr8 => (intro w hSw; go_simp; first | done | (with_reducible rfl))
      try simp only [Act.put, PA, PB]
      refine wpAnyH_ready (rs := [8]) (by kernel_rfl) (by simp) (AllReadyH.cons (o := _) rfl (fun K hK => ?_) AllReadyH.nil)
      go_simp
      refine hK.out _ _ (hHeld.al _) (fun hNew => ?_)
      have h10 : V6.heap.size ≤ wr5.heap.size := hHeld.size
      clear hHeld hK K
      have hHeld := hNew
      clear hNew
      try simp only [Act.put, PA, PB]
      have g10HM := HM.size
      have g10hmd3 := hmd3.size
      refine at_anyH (fun v => GB (fun _ => False) V6 v ∧ BK v (wr5.heap.size) [.slice none 0 0, .slice none 0 0, .int .i64 0, .int .i64 0, .int .i64 0, .int .i64 0, .int .i64 0, .int .i64 0] ∧ Mid lo Wc v ∧ Mid lo3 Wd3 v) ⟨hHeld, BK.new _ _ _, HM.al _, hmd3.al _⟩ (fun wr9 hS => ?_)
      clear hHeld HM hmd3
      obtain ⟨hHeld, B10, HM, hmd3⟩ := hS
      refine wpAnyH_ready (rs := [9]) (by kernel_rfl) (by simp) (AllReadyH.cons (o := _) rfl (fun K hK => ?_) AllReadyH.nil)
      have n0 := B10.c 0 rfl
      have f0 := B10.f 0 rfl
      have n1 := B10.c 1 rfl
      have f1 := B10.f 1 rfl
      have n2 := B10.c 2 rfl
      have f2 := B10.f 2 rfl
      have n3 := B10.c 3 rfl
      have f3 := B10.f 3 rfl
      have n4 := B10.c 4 rfl
      have f4 := B10.f 4 rfl
      have n5 := B10.c 5 rfl
      have f5 := B10.f 5 rfl
      have n6 := B10.c 6 rfl
      have f6 := B10.f 6 rfl
      have n7 := B10.c 7 rfl
      have f7 := B10.f 7 rfl
      go_simp
      clear n0 f0 n1 f1 n2 f2 n3 f3 n4 f4 n5 f5 n6 f6 n7 f7
      refine hK.out _ _ ((((((((hHeld.set (.inr h10) _).set (.inr h10) _).set (.inr h10) _).set (.inr h10) _).set (.inr h10) _).set (.inr h10) _).set (.inr h10) _).set (.inr h10) _) (fun hNew => ?_)
      clear hHeld hK K
      have hHeld := hNew
      clear hNew
      try simp only [Act.put, PA, PB]
      refine at_anyH (fun v => GB (fun _ => False) V6 v ∧ BK v (wr5.heap.size) [.slice A3 m3 ca3, .slice Q3 nq3 cq3, .int .i64 (o1 : Nat), .int .i64 sa, .int .i64 sb, .int .i64 tx, .int .i64 ty, .int .i64 (o2 : Nat)] ∧ Mid lo Wc v ∧ Mid lo3 Wd3 v) ⟨hHeld, ((((((((B10.set 0 _).set 1 _).set 2 _).set 3 _).set 4 _).set 5 _).set 6 _).set 7 _), ((((((((HM.set (by omega) _).set (by omega) _).set (by omega) _).set (by omega) _).set (by omega) _).set (by omega) _).set (by omega) _).set (by omega) _), ((((((((hmd3.set (by omega) _).set (by omega) _).set (by omega) _).set (by omega) _).set (by omega) _).set (by omega) _).set (by omega) _).set (by omega) _)⟩ (fun wr10 hS => ?_)
      clear hHeld B10 HM hmd3
      obtain ⟨hHeld, B10, HM, hmd3⟩ := hS
      refine wpAnyH_take (i := 10) (oi := _) (v := ?vr11) rfl (by kernel_rfl) (by kernel_rfl) (by kernel_rfl) (fun _ _ _ h => h) (Or.inl ⟨by kernel_rfl, ?hyr11⟩) hHeld ?restr11
      case hyr11 => (intro w hSw; go_simp; first | done | (with_reducible rfl))
      try simp only [Act.put, PA, PB]
      refine wpAnyH_done (by kernel_rfl) ?_ _
      refine NoPanic.normal ?_
      have hbb2 := hHeld.toBelow hbb (fun k hk => hk.elim) hBV
      have b2 := B2.gb hHeld (fun h => h)
      have b3 := B3.gb hHeld (fun h => h)
      have hzz : wr5.heap.size ≠ w.heap.size + 2 ∧ wr5.heap.size ≠ w.heap.size + 3 := by
        have := hBV4
        exact ⟨by omega, by omega⟩
      go_upto_region 7 with fail
      refine at_worldQ (fun v => Below w.heap.size w v ∧ BK v (w.heap.size + 2) [.slice none 0 0, .slice none 0 0] ∧ BK v (w.heap.size + 3) [.int .i64 0, .int .i64 0, .int .i64 0, .int .i64 0, .int .i64 0, .int .i64 0] ∧ BK v (wr5.heap.size) [.slice A3 m3 ca3, .slice Q3 nq3 cq3, .int .i64 (o1 : Nat), .int .i64 sa, .int .i64 sb, .int .i64 tx, .int .i64 ty, .int .i64 (o2 : Nat)] ∧ Mid lo3 Wd3 v) ⟨hbb2, b2, b3, B10, hmd3⟩ (fun V7 hS => ?_)
      clear hHeld hbb hbb2 b2 b3 B10 hmd3 B2 B3 HM
      obtain ⟨hbb, BD, BT, BR, hmd⟩ := hS
      have hbv7 := BD.lt
      generalize wr5.heap.size = pr at *
      have x0 := BR.c 0 rfl
      have x1 := BR.c 1 rfl
      have x2 := BR.c 2 rfl
      have x3 := BR.c 3 rfl
      have x4 := BR.c 4 rfl
      have x5 := BR.c 5 rfl
      have x6 := BR.c 6 rfl
      have x7 := BR.c 7 rfl
      refine wp_region_noPanic ?_
      refine wp_region_held_drew (S := (GB (fun k => k = w.heap.size + 2 ∨ k = w.heap.size + 3) V7)) (by kernel_rfl) ((GB.refl _ _).drew) (fun hHeld => ?_)
      refine at_anyH (fun v => GB (fun k => k = w.heap.size + 2 ∨ k = w.heap.size + 3) V7 v ∧ BK v (w.heap.size + 2) [.slice none 0 0, .slice none 0 0] ∧ BK v (w.heap.size + 3) [.int .i64 0, .int .i64 0, .int .i64 0, .int .i64 0, .int .i64 0, .int .i64 0]) ⟨hHeld, BD.drew, BT.drew⟩ (fun wq0 hNew => ?_)
      clear hHeld BD BT
      obtain ⟨hHeld, BD, BT⟩ := hNew
      refine wpAnyH_take (i := 0) (oi := _) (v := ?vq1) rfl (by kernel_rfl) (by kernel_rfl) (by kernel_rfl) (fun _ _ _ h => h) (Or.inl ⟨by kernel_rfl, ?hyq1⟩) hHeld ?restq1
      case hyq1 => (intro w hSw; go_simp; first | done | (with_reducible rfl))
      try simp only [Act.put, PA, PB]
      refine wpAnyH_take (i := 1) (oi := _) (v := ?vq2) rfl (by kernel_rfl) (by kernel_rfl) (by kernel_rfl) (fun _ _ _ h => h) (Or.inl ⟨by kernel_rfl, ?hyq2⟩) hHeld ?restq2
      case hyq2 => (intro w hSw; have kx0 := hSw.cell (by omega) x0; have kx1 := hSw.cell (by omega) x1; have kx2 := hSw.cell (by omega) x2; have kx3 := hSw.cell (by omega) x3; have kx4 := hSw.cell (by omega) x4; have kx5 := hSw.cell (by omega) x5; have kx6 := hSw.cell (by omega) x6; have kx7 := hSw.cell (by omega) x7; go_simp; first | done | (with_reducible rfl))
      try simp only [Act.put, PA, PB]
      refine wpAnyH_take (i := 2) (oi := _) (v := ?vq3) rfl (by kernel_rfl) (by kernel_rfl) (by kernel_rfl) (fun _ _ _ h => h) (Or.inl ⟨by kernel_rfl, ?hyq3⟩) hHeld ?restq3
      case hyq3 => (intro w hSw; go_simp; first | done | (with_reducible rfl))
      try simp only [Act.put, PA, PB]
      refine wpAnyH_take (i := 3) (oi := _) (v := ?vq4) rfl (by kernel_rfl) (by kernel_rfl) (by kernel_rfl) (fun _ _ _ h => h) (Or.inl ⟨by kernel_rfl, ?hyq4⟩) hHeld ?restq4
      case hyq4 => (intro w hSw; have kx0 := hSw.cell (by omega) x0; have kx1 := hSw.cell (by omega) x1; have kx2 := hSw.cell (by omega) x2; have kx3 := hSw.cell (by omega) x3; have kx4 := hSw.cell (by omega) x4; have kx5 := hSw.cell (by omega) x5; have kx6 := hSw.cell (by omega) x6; have kx7 := hSw.cell (by omega) x7; go_simp; first | done | (with_reducible rfl))
      try simp only [Act.put, PA, PB]
      refine wpAnyH_take (i := 4) (oi := _) (v := ?vq5) rfl (by kernel_rfl) (by kernel_rfl) (by kernel_rfl) (fun _ _ _ h => h) (Or.inl ⟨by kernel_rfl, ?hyq5⟩) hHeld ?restq5
      case hyq5 => (intro w hSw; go_simp; first | done | (with_reducible rfl))
      try simp only [Act.put, PA, PB]
      refine wpAnyH_ready (rs := [5]) (by kernel_rfl) (by simp) (AllReadyH.cons (o := _) rfl (fun K hK => ?_) AllReadyH.nil)
      have n0 := BD.c 0 rfl
      have f0 := BD.f 0 rfl
      have n1 := BD.c 1 rfl
      have f1 := BD.f 1 rfl
      go_simp
      clear n0 f0 n1 f1
      refine hK.out _ _ ((hHeld.set (.inl (.inl rfl)) _).set (.inl (.inl rfl)) _) (fun hNew => ?_)
      clear hHeld hK K
      have hHeld := hNew
      clear hNew
      try simp only [Act.put, PA, PB]
      refine at_anyH (fun v => GB (fun k => k = w.heap.size + 2 ∨ k = w.heap.size + 3) V7 v ∧ BK v (w.heap.size + 2) [.slice A3 m3 ca3, .slice Q3 nq3 cq3] ∧ BK v (w.heap.size + 3) [.int .i64 0, .int .i64 0, .int .i64 0, .int .i64 0, .int .i64 0, .int .i64 0]) ⟨hHeld, ((BD.set 0 _).set 1 _), ((BT.far (by omega) _ _).far (by omega) _ _)⟩ (fun wq6 hS => ?_)
      clear hHeld BD BT
      obtain ⟨hHeld, BD, BT⟩ := hS
      refine wpAnyH_ready (rs := [6]) (by kernel_rfl) (by simp) (AllReadyH.cons (o := _) rfl (fun K hK => ?_) AllReadyH.nil)
      have n0 := BT.c 0 rfl
      have f0 := BT.f 0 rfl
      have n1 := BT.c 1 rfl
      have f1 := BT.f 1 rfl
      have n2 := BT.c 2 rfl
      have f2 := BT.f 2 rfl
      have n3 := BT.c 3 rfl
      have f3 := BT.f 3 rfl
      have n4 := BT.c 4 rfl
      have f4 := BT.f 4 rfl
      have n5 := BT.c 5 rfl
      have f5 := BT.f 5 rfl
      go_simp
      clear n0 f0 n1 f1 n2 f2 n3 f3 n4 f4 n5 f5
      refine hK.out _ _ ((((((hHeld.set (.inl (.inr rfl)) _).set (.inl (.inr rfl)) _).set (.inl (.inr rfl)) _).set (.inl (.inr rfl)) _).set (.inl (.inr rfl)) _).set (.inl (.inr rfl)) _) (fun hNew => ?_)
      clear hHeld hK K
      have hHeld := hNew
      clear hNew
      try simp only [Act.put, PA, PB]
      refine at_anyH (fun v => GB (fun k => k = w.heap.size + 2 ∨ k = w.heap.size + 3) V7 v ∧ BK v (w.heap.size + 2) [.slice A3 m3 ca3, .slice Q3 nq3 cq3] ∧ BK v (w.heap.size + 3) [.int .i64 (o1 : Nat), .int .i64 sa, .int .i64 sb, .int .i64 tx, .int .i64 ty, .int .i64 (o2 : Nat)]) ⟨hHeld, ((((((BD.far (by omega) _ _).far (by omega) _ _).far (by omega) _ _).far (by omega) _ _).far (by omega) _ _).far (by omega) _ _), ((((((BT.set 0 _).set 1 _).set 2 _).set 3 _).set 4 _).set 5 _)⟩ (fun wq7 hS => ?_)
      clear hHeld BD BT
      obtain ⟨hHeld, BD, BT⟩ := hS
      refine wpAnyH_take (i := 7) (oi := _) (v := ?vq8) rfl (by kernel_rfl) (by kernel_rfl) (by kernel_rfl) (fun _ _ _ h => h) (Or.inl ⟨by kernel_rfl, ?hyq8⟩) hHeld ?restq8
      case hyq8 => (intro w hSw; go_simp; first | done | (with_reducible rfl))
      try simp only [Act.put, PA, PB]
      refine wpAnyH_done (by kernel_rfl) ?_ _
      refine NoPanic.normal ?_
      have hbb2 := hHeld.toBelow hbb (fun k hk => by omega) (by omega)
      have r0 := BD.c 0 rfl
      have r1 := BD.c 1 rfl
      have t0 := BT.c 0 rfl
      have t1 := BT.c 1 rfl
      have t2 := BT.c 2 rfl
      have t3 := BT.c 3 rfl
      have t4 := BT.c 4 rfl
      have t5 := BT.c 5 rfl
      have hmf := hmd.gb hHeld (fun k h1 h2 hk => by
        have := HG3.out k h1 h2
        omega)
      go_wp2_with fail
      exact bodyPost_ret (v := .tuple #[.agg #[.slice A3 m3 ca3, .slice Q3 nq3 cq3], .agg #[.int .i64 (o1 : Nat), .int .i64 sa, .int .i64 sb, .int .i64 tx, .int .i64 ty, .int .i64 (o2 : Nat)], .int .i64 0]) (by simp [results, Try.results38, go_sem, r0, r1, t0, t1, t2, t3, t4, t5]) rfl ⟨A3, m3, ca3, Q3, nq3, cq3, cs3, lo3, Wd3, rfl, hbb2, HM3.out, HN3.out, HD3.out, HF3.out, hmf, fun k h1 h2 => by have := HG3.out k h1 h2; omega⟩
    ·
      go_simp
      refine hK.out _ _ (hHeld.al _) (fun hNew => ?_)
      have h10 : V6.heap.size ≤ wr4.heap.size := hHeld.size
      clear hHeld hK K
      have hHeld := hNew
      clear hNew
      try simp only [Act.put, PA, PB]
      have g10HM := HM.size
      refine at_anyH (fun v => GB (fun _ => False) V6 v ∧ BK v (wr4.heap.size) [.slice none 0 0, .slice none 0 0, .int .i64 0, .int .i64 0, .int .i64 0, .int .i64 0, .int .i64 0, .int .i64 0] ∧ Mid lo Wc v) ⟨hHeld, BK.new _ _ _, HM.al _⟩ (fun wr12 hS => ?_)
      clear hHeld HM
      obtain ⟨hHeld, B10, HM⟩ := hS
      refine wpAnyH_ready (rs := [4]) (by kernel_rfl) (by simp) (AllReadyH.cons (o := _) rfl (fun K hK => ?_) AllReadyH.nil)
      go_simp
      refine (PL2.out _ HM (hHeld.toBelow hbb (fun k hk => hk.elim) hBV)).mono ?_
      rintro e wr13 ⟨A3, m3, ca3, Q3, nq3, cq3, cs3, lo3, Wd3, rfl, hb3, hm3, hnq3, hd3, hfd3, hmd3, hsp3⟩
      have hge3 : ∀ k, lo3 ≤ k → k < Wd3.heap.size → w.heap.size + 4 ≤ k := fun k h1 h2 => by
        have := hsp3 k h1 h2
        have := hHeld.size
        omega
      have HF3 := Lib.hid hfd3
      have HM3 := Lib.hid hm3
      have HN3 := Lib.hid hnq3
      have HD3 := Lib.hid hd3
      have HG3 := Lib.hid hge3
      have hz10 : wr4.heap.size < lo3 ∨ Wd3.heap.size ≤ wr4.heap.size := by
        have hbl := B10.lt
        rcases Nat.lt_or_ge (wr4.heap.size) lo3 with h | h
        · exact .inl h
        · rcases Nat.lt_or_ge (wr4.heap.size) Wd3.heap.size with h2 | h2
          · have := hsp3 _ h h2
            omega
          · exact .inr h2
      clear hm3 hnq3 hd3 hge3 hfd3 hsp3
      go_wp2_with fail
      refine hK.out _ _ (hHeld.below hb3) (fun hNew => ?_)
      have c10 := B10.lt
      replace B10 := B10.keep hb3
      replace HM := HM.call hb3
      clear hb3
      clear hHeld hK K
      have hHeld := hNew
      clear hNew
      try simp only [Act.put, PA, PB]
      refine wpAnyH_take (i := 5) (oi := _) (v := ?vr14) rfl (by kernel_rfl) (by kernel_rfl) (by kernel_rfl) (fun _ _ _ h => h) (Or.inl ⟨by kernel_rfl, ?hyr14⟩) hHeld ?restr14
      case hyr14 => (intro w hSw; go_simp; first | done | (with_reducible rfl))
      try simp only [Act.put, PA, PB]
      refine wpAnyH_take (i := 6) (oi := _) (v := ?vr15) rfl (by kernel_rfl) (by kernel_rfl) (by kernel_rfl) (fun _ _ _ h => h) (Or.inl ⟨by kernel_rfl, ?hyr15⟩) hHeld ?restr15
      case hyr15 => (intro w hSw; go_simp; first | done | (with_reducible rfl))
      try simp only [Act.put, PA, PB]
      refine wpAnyH_take (i := 7) (oi := _) (v := ?vr16) rfl (by kernel_rfl) (by kernel_rfl) (by kernel_rfl) (fun _ _ _ h => h) (Or.inl ⟨by kernel_rfl, ?hyr16⟩) hHeld ?restr16
      case hyr16 => (intro w hSw; go_simp; first | done | (with_reducible rfl))
      try simp only [Act.put, PA, PB]
      refine wpAnyH_ready (rs := [9]) (by kernel_rfl) (by simp) (AllReadyH.cons (o := _) rfl (fun K hK => ?_) AllReadyH.nil)
      have n0 := B10.c 0 rfl
      have f0 := B10.f 0 rfl
      have n1 := B10.c 1 rfl
      have f1 := B10.f 1 rfl
      have n2 := B10.c 2 rfl
      have f2 := B10.f 2 rfl
      have n3 := B10.c 3 rfl
      have f3 := B10.f 3 rfl
      have n4 := B10.c 4 rfl
      have f4 := B10.f 4 rfl
      have n5 := B10.c 5 rfl
      have f5 := B10.f 5 rfl
      have n6 := B10.c 6 rfl
      have f6 := B10.f 6 rfl
      have n7 := B10.c 7 rfl
      have f7 := B10.f 7 rfl
      go_simp
      clear n0 f0 n1 f1 n2 f2 n3 f3 n4 f4 n5 f5 n6 f6 n7 f7
      refine hK.out _ _ ((((((((hHeld.set (.inr h10) _).set (.inr h10) _).set (.inr h10) _).set (.inr h10) _).set (.inr h10) _).set (.inr h10) _).set (.inr h10) _).set (.inr h10) _) (fun hNew => ?_)
      clear hHeld hK K
      have hHeld := hNew
      clear hNew
      try simp only [Act.put, PA, PB]
      refine at_anyH (fun v => GB (fun _ => False) V6 v ∧ BK v (wr4.heap.size) [.slice A3 m3 ca3, .slice Q3 nq3 cq3, .int .i64 (o1 : Nat), .int .i64 sa, .int .i64 sb, .int .i64 tx, .int .i64 ty, .int .i64 (o2 : Nat)] ∧ Mid lo Wc v ∧ Mid lo3 Wd3 v) ⟨hHeld, ((((((((B10.set 0 _).set 1 _).set 2 _).set 3 _).set 4 _).set 5 _).set 6 _).set 7 _), ((((((((HM.set (by omega) _).set (by omega) _).set (by omega) _).set (by omega) _).set (by omega) _).set (by omega) _).set (by omega) _).set (by omega) _), ((((((((hmd3.set (by omega) _).set (by omega) _).set (by omega) _).set (by omega) _).set (by omega) _).set (by omega) _).set (by omega) _).set (by omega) _)⟩ (fun wr17 hS => ?_)
      clear hHeld B10 HM hmd3
      obtain ⟨hHeld, B10, HM, hmd3⟩ := hS
      refine wpAnyH_take (i := 10) (oi := _) (v := ?vr18) rfl (by kernel_rfl) (by kernel_rfl) (by kernel_rfl) (fun _ _ _ h => h) (Or.inl ⟨by kernel_rfl, ?hyr18⟩) hHeld ?restr18
      case hyr18 => (intro w hSw; go_simp; first | done | (with_reducible rfl))
      try simp only [Act.put, PA, PB]
      refine wpAnyH_done (by kernel_rfl) ?_ _
      refine NoPanic.normal ?_
      have hbb2 := hHeld.toBelow hbb (fun k hk => hk.elim) hBV
      have b2 := B2.gb hHeld (fun h => h)
      have b3 := B3.gb hHeld (fun h => h)
      have hzz : wr4.heap.size ≠ w.heap.size + 2 ∧ wr4.heap.size ≠ w.heap.size + 3 := by
        have := hBV4
        exact ⟨by omega, by omega⟩
      go_upto_region 7 with fail
      refine at_worldQ (fun v => Below w.heap.size w v ∧ BK v (w.heap.size + 2) [.slice none 0 0, .slice none 0 0] ∧ BK v (w.heap.size + 3) [.int .i64 0, .int .i64 0, .int .i64 0, .int .i64 0, .int .i64 0, .int .i64 0] ∧ BK v (wr4.heap.size) [.slice A3 m3 ca3, .slice Q3 nq3 cq3, .int .i64 (o1 : Nat), .int .i64 sa, .int .i64 sb, .int .i64 tx, .int .i64 ty, .int .i64 (o2 : Nat)] ∧ Mid lo3 Wd3 v) ⟨hbb2, b2, b3, B10, hmd3⟩ (fun V7 hS => ?_)
      clear hHeld hbb hbb2 b2 b3 B10 hmd3 B2 B3 HM
      obtain ⟨hbb, BD, BT, BR, hmd⟩ := hS
      have hbv7 := BD.lt
      generalize wr4.heap.size = pr at *
      have x0 := BR.c 0 rfl
      have x1 := BR.c 1 rfl
      have x2 := BR.c 2 rfl
      have x3 := BR.c 3 rfl
      have x4 := BR.c 4 rfl
      have x5 := BR.c 5 rfl
      have x6 := BR.c 6 rfl
      have x7 := BR.c 7 rfl
      refine wp_region_noPanic ?_
      refine wp_region_held_drew (S := (GB (fun k => k = w.heap.size + 2 ∨ k = w.heap.size + 3) V7)) (by kernel_rfl) ((GB.refl _ _).drew) (fun hHeld => ?_)
      refine at_anyH (fun v => GB (fun k => k = w.heap.size + 2 ∨ k = w.heap.size + 3) V7 v ∧ BK v (w.heap.size + 2) [.slice none 0 0, .slice none 0 0] ∧ BK v (w.heap.size + 3) [.int .i64 0, .int .i64 0, .int .i64 0, .int .i64 0, .int .i64 0, .int .i64 0]) ⟨hHeld, BD.drew, BT.drew⟩ (fun wq0 hNew => ?_)
      clear hHeld BD BT
      obtain ⟨hHeld, BD, BT⟩ := hNew
      refine wpAnyH_take (i := 0) (oi := _) (v := ?vq9) rfl (by kernel_rfl) (by kernel_rfl) (by kernel_rfl) (fun _ _ _ h => h) (Or.inl ⟨by kernel_rfl, ?hyq9⟩) hHeld ?restq9
      case hyq9 => (intro w hSw; go_simp; first | done | (with_reducible rfl))
      try simp only [Act.put, PA, PB]
      refine wpAnyH_take (i := 1) (oi := _) (v := ?vq10) rfl (by kernel_rfl) (by kernel_rfl) (by kernel_rfl) (fun _ _ _ h => h) (Or.inl ⟨by kernel_rfl, ?hyq10⟩) hHeld ?restq10
      case hyq10 => (intro w hSw; have kx0 := hSw.cell (by omega) x0; have kx1 := hSw.cell (by omega) x1; have kx2 := hSw.cell (by omega) x2; have kx3 := hSw.cell (by omega) x3; have kx4 := hSw.cell (by omega) x4; have kx5 := hSw.cell (by omega) x5; have kx6 := hSw.cell (by omega) x6; have kx7 := hSw.cell (by omega) x7; go_simp; first | done | (with_reducible rfl))
      try simp only [Act.put, PA, PB]
      refine wpAnyH_take (i := 2) (oi := _) (v := ?vq11) rfl (by kernel_rfl) (by kernel_rfl) (by kernel_rfl) (fun _ _ _ h => h) (Or.inl ⟨by kernel_rfl, ?hyq11⟩) hHeld ?restq11
      case hyq11 => (intro w hSw; go_simp; first | done | (with_reducible rfl))
      try simp only [Act.put, PA, PB]
      refine wpAnyH_take (i := 3) (oi := _) (v := ?vq12) rfl (by kernel_rfl) (by kernel_rfl) (by kernel_rfl) (fun _ _ _ h => h) (Or.inl ⟨by kernel_rfl, ?hyq12⟩) hHeld ?restq12
      case hyq12 => (intro w hSw; have kx0 := hSw.cell (by omega) x0; have kx1 := hSw.cell (by omega) x1; have kx2 := hSw.cell (by omega) x2; have kx3 := hSw.cell (by omega) x3; have kx4 := hSw.cell (by omega) x4; have kx5 := hSw.cell (by omega) x5; have kx6 := hSw.cell (by omega) x6; have kx7 := hSw.cell (by omega) x7; go_simp; first | done | (with_reducible rfl))
      try simp only [Act.put, PA, PB]
      refine wpAnyH_take (i := 4) (oi := _) (v := ?vq13) rfl (by kernel_rfl) (by kernel_rfl) (by kernel_rfl) (fun _ _ _ h => h) (Or.inl ⟨by kernel_rfl, ?hyq13⟩) hHeld ?restq13
      case hyq13 => (intro w hSw; go_simp; first | done | (with_reducible rfl))
      try simp only [Act.put, PA, PB]
      refine wpAnyH_ready (rs := [5]) (by kernel_rfl) (by simp) (AllReadyH.cons (o := _) rfl (fun K hK => ?_) AllReadyH.nil)
      have n0 := BD.c 0 rfl
      have f0 := BD.f 0 rfl
      have n1 := BD.c 1 rfl
      have f1 := BD.f 1 rfl
      go_simp
      clear n0 f0 n1 f1
      refine hK.out _ _ ((hHeld.set (.inl (.inl rfl)) _).set (.inl (.inl rfl)) _) (fun hNew => ?_)
      clear hHeld hK K
      have hHeld := hNew
      clear hNew
      try simp only [Act.put, PA, PB]
      refine at_anyH (fun v => GB (fun k => k = w.heap.size + 2 ∨ k = w.heap.size + 3) V7 v ∧ BK v (w.heap.size + 2) [.slice A3 m3 ca3, .slice Q3 nq3 cq3] ∧ BK v (w.heap.size + 3) [.int .i64 0, .int .i64 0, .int .i64 0, .int .i64 0, .int .i64 0, .int .i64 0]) ⟨hHeld, ((BD.set 0 _).set 1 _), ((BT.far (by omega) _ _).far (by omega) _ _)⟩ (fun wq14 hS => ?_)
      clear hHeld BD BT
      obtain ⟨hHeld, BD, BT⟩ := hS
      refine wpAnyH_ready (rs := [6]) (by kernel_rfl) (by simp) (AllReadyH.cons (o := _) rfl (fun K hK => ?_) AllReadyH.nil)
      have n0 := BT.c 0 rfl
      have f0 := BT.f 0 rfl
      have n1 := BT.c 1 rfl
      have f1 := BT.f 1 rfl
      have n2 := BT.c 2 rfl
      have f2 := BT.f 2 rfl
      have n3 := BT.c 3 rfl
      have f3 := BT.f 3 rfl
      have n4 := BT.c 4 rfl
      have f4 := BT.f 4 rfl
      have n5 := BT.c 5 rfl
      have f5 := BT.f 5 rfl
      go_simp
      clear n0 f0 n1 f1 n2 f2 n3 f3 n4 f4 n5 f5
      refine hK.out _ _ ((((((hHeld.set (.inl (.inr rfl)) _).set (.inl (.inr rfl)) _).set (.inl (.inr rfl)) _).set (.inl (.inr rfl)) _).set (.inl (.inr rfl)) _).set (.inl (.inr rfl)) _) (fun hNew => ?_)
      clear hHeld hK K
      have hHeld := hNew
      clear hNew
      try simp only [Act.put, PA, PB]
      refine at_anyH (fun v => GB (fun k => k = w.heap.size + 2 ∨ k = w.heap.size + 3) V7 v ∧ BK v (w.heap.size + 2) [.slice A3 m3 ca3, .slice Q3 nq3 cq3] ∧ BK v (w.heap.size + 3) [.int .i64 (o1 : Nat), .int .i64 sa, .int .i64 sb, .int .i64 tx, .int .i64 ty, .int .i64 (o2 : Nat)]) ⟨hHeld, ((((((BD.far (by omega) _ _).far (by omega) _ _).far (by omega) _ _).far (by omega) _ _).far (by omega) _ _).far (by omega) _ _), ((((((BT.set 0 _).set 1 _).set 2 _).set 3 _).set 4 _).set 5 _)⟩ (fun wq15 hS => ?_)
      clear hHeld BD BT
      obtain ⟨hHeld, BD, BT⟩ := hS
      refine wpAnyH_take (i := 7) (oi := _) (v := ?vq16) rfl (by kernel_rfl) (by kernel_rfl) (by kernel_rfl) (fun _ _ _ h => h) (Or.inl ⟨by kernel_rfl, ?hyq16⟩) hHeld ?restq16
      case hyq16 => (intro w hSw; go_simp; first | done | (with_reducible rfl))
      try simp only [Act.put, PA, PB]
      refine wpAnyH_done (by kernel_rfl) ?_ _
      refine NoPanic.normal ?_
      have hbb2 := hHeld.toBelow hbb (fun k hk => by omega) (by omega)
      have r0 := BD.c 0 rfl
      have r1 := BD.c 1 rfl
      have t0 := BT.c 0 rfl
      have t1 := BT.c 1 rfl
      have t2 := BT.c 2 rfl
      have t3 := BT.c 3 rfl
      have t4 := BT.c 4 rfl
      have t5 := BT.c 5 rfl
      have hmf := hmd.gb hHeld (fun k h1 h2 hk => by
        have := HG3.out k h1 h2
        omega)
      go_wp2_with fail
      exact bodyPost_ret (v := .tuple #[.agg #[.slice A3 m3 ca3, .slice Q3 nq3 cq3], .agg #[.int .i64 (o1 : Nat), .int .i64 sa, .int .i64 sb, .int .i64 tx, .int .i64 ty, .int .i64 (o2 : Nat)], .int .i64 0]) (by simp [results, Try.results38, go_sem, r0, r1, t0, t1, t2, t3, t4, t5]) rfl ⟨A3, m3, ca3, Q3, nq3, cq3, cs3, lo3, Wd3, rfl, hbb2, HM3.out, HN3.out, HD3.out, HF3.out, hmf, fun k h1 h2 => by have := HG3.out k h1 h2; omega⟩
  ·
    go_simp
    refine hK.out _ _ (hHeld.al _) (fun hNew => ?_)
    have h10 : V6.heap.size ≤ wr0.heap.size := hHeld.size
    clear hHeld hK K
    have hHeld := hNew
    clear hNew
    try simp only [Act.put, PA, PB]
    refine at_anyH (fun v => GB (fun _ => False) V6 v ∧ BK v (wr0.heap.size) [.slice none 0 0, .slice none 0 0, .int .i64 0, .int .i64 0, .int .i64 0, .int .i64 0, .int .i64 0, .int .i64 0]) ⟨hHeld, BK.new _ _ _⟩ (fun wr19 hS => ?_)
    clear hHeld
    obtain ⟨hHeld, B10⟩ := hS
    refine wpAnyH_ready (rs := [1]) (by kernel_rfl) (by simp) (AllReadyH.cons (o := _) rfl (fun K hK => ?_) AllReadyH.nil)
    go_simp
    refine (COP.out _ (hHeld.toBelow hbb (fun k hk => hk.elim) hBV)).mono ?_
    rintro e wr20 ⟨A2, m2, ca2, Q2, nq2, cq2, cs2, rfl, hb3, rfl, hnq2, hd2, hfd2⟩
    have hlow : w.heap.size + 4 ≤ wr19.heap.size := Nat.le_trans hBV4 hHeld.size
    have hn3 := hnq2.trans HNQ.out
    clear hnq2
    subst hn3
    obtain ⟨lo, hlo⟩ : ∃ z, wr19.heap.size = z := ⟨_, rfl⟩
    obtain ⟨Wc, hWc⟩ : ∃ z, wr20 = z := ⟨_, rfl⟩
    have HM : Mid lo Wc wr20 := by
      subst hWc
      exact Mid.refl _ _
    have hfd3 : FD Wc lo A2 ca2 cs2 Q2 cq2 s.L := by
      rw [← hWc, ← hlo]
      exact hfd2
    have hlb : lo ≤ Wc.heap.size := by
      rw [← hlo, ← hWc]
      exact hb3.size
    have hlo1 : wr19.heap.size ≤ lo := by omega
    have hlo2 : lo ≤ wr19.heap.size := by omega
    have pl2 := fun v hm hv => PLX.out A2 ca2 cs2 Q2 cq2 lo Wc v hfd3 hm hd2 hv
    obtain ⟨cl2, hcl2⟩ : ∃ z, cs2.length = z := ⟨_, rfl⟩
    rw [hcl2] at pl2 ⊢
    have PL2 := Lib.hid pl2
    clear pl2 hfd2 hfd3 hd2 hcl2 hWc hlo
    go_wp2_with fail
    refine hK.out _ _ (hHeld.below hb3) (fun hNew => ?_)
    have c10 := B10.lt
    replace B10 := B10.keep hb3
    clear hb3
    clear hHeld hK K
    have hHeld := hNew
    clear hNew
    try simp only [Act.put, PA, PB]
    refine wpAnyH_ready (rs := [4]) (by kernel_rfl) (by simp) (AllReadyH.cons (o := _) rfl (fun K hK => ?_) AllReadyH.nil)
    go_simp
    refine (PL2.out _ HM (hHeld.toBelow hbb (fun k hk => hk.elim) hBV)).mono ?_
    rintro e wr21 ⟨A3, m3, ca3, Q3, nq3, cq3, cs3, lo3, Wd3, rfl, hb3, hm3, hnq3, hd3, hfd3, hmd3, hsp3⟩
    have hge3 : ∀ k, lo3 ≤ k → k < Wd3.heap.size → w.heap.size + 4 ≤ k := fun k h1 h2 => by
      have := hsp3 k h1 h2
      have := hHeld.size
      omega
    have HF3 := Lib.hid hfd3
    have HM3 := Lib.hid hm3
    have HN3 := Lib.hid hnq3
    have HD3 := Lib.hid hd3
    have HG3 := Lib.hid hge3
    have hz10 : wr0.heap.size < lo3 ∨ Wd3.heap.size ≤ wr0.heap.size := by
      have hbl := B10.lt
      rcases Nat.lt_or_ge (wr0.heap.size) lo3 with h | h
      · exact .inl h
      · rcases Nat.lt_or_ge (wr0.heap.size) Wd3.heap.size with h2 | h2
        · have := hsp3 _ h h2
          omega
        · exact .inr h2
    clear hm3 hnq3 hd3 hge3 hfd3 hsp3
    go_wp2_with fail
    refine hK.out _ _ (hHeld.below hb3) (fun hNew => ?_)
    have c10 := B10.lt
    replace B10 := B10.keep hb3
    replace HM := HM.call hb3
    clear hb3
    clear hHeld hK K
    have hHeld := hNew
    clear hNew
    try simp only [Act.put, PA, PB]
    refine wpAnyH_take (i := 5) (oi := _) (v := ?vr22) rfl (by kernel_rfl) (by kernel_rfl) (by kernel_rfl) (fun _ _ _ h => h) (Or.inl ⟨by kernel_rfl, ?hyr22⟩) hHeld ?restr22
    case hyr22 => (intro w hSw; go_simp; first | done | (with_reducible rfl))
    try simp only [Act.put, PA, PB]
    refine wpAnyH_take (i := 6) (oi := _) (v := ?vr23) rfl (by kernel_rfl) (by kernel_rfl) (by kernel_rfl) (fun _ _ _ h => h) (Or.inl ⟨by kernel_rfl, ?hyr23⟩) hHeld ?restr23
    case hyr23 => (intro w hSw; go_simp; first | done | (with_reducible rfl))
    try simp only [Act.put, PA, PB]
    refine wpAnyH_take (i := 7) (oi := _) (v := ?vr24) rfl (by kernel_rfl) (by kernel_rfl) (by kernel_rfl) (fun _ _ _ h => h) (Or.inl ⟨by kernel_rfl, ?hyr24⟩) hHeld ?restr24
    case hyr24 => (intro w hSw; go_simp; first | done | (with_reducible rfl))
    try simp only [Act.put, PA, PB]
    refine wpAnyH_ready (rs := [9]) (by kernel_rfl) (by simp) (AllReadyH.cons (o := _) rfl (fun K hK => ?_) AllReadyH.nil)
    have n0 := B10.c 0 rfl
    have f0 := B10.f 0 rfl
    have n1 := B10.c 1 rfl
    have f1 := B10.f 1 rfl
    have n2 := B10.c 2 rfl
    have f2 := B10.f 2 rfl
    have n3 := B10.c 3 rfl
    have f3 := B10.f 3 rfl
    have n4 := B10.c 4 rfl
    have f4 := B10.f 4 rfl
    have n5 := B10.c 5 rfl
    have f5 := B10.f 5 rfl
    have n6 := B10.c 6 rfl
    have f6 := B10.f 6 rfl
    have n7 := B10.c 7 rfl
    have f7 := B10.f 7 rfl
    go_simp
    clear n0 f0 n1 f1 n2 f2 n3 f3 n4 f4 n5 f5 n6 f6 n7 f7
    refine hK.out _ _ ((((((((hHeld.set (.inr h10) _).set (.inr h10) _).set (.inr h10) _).set (.inr h10) _).set (.inr h10) _).set (.inr h10) _).set (.inr h10) _).set (.inr h10) _) (fun hNew => ?_)
    clear hHeld hK K
    have hHeld := hNew
    clear hNew
    try simp only [Act.put, PA, PB]
    refine at_anyH (fun v => GB (fun _ => False) V6 v ∧ BK v (wr0.heap.size) [.slice A3 m3 ca3, .slice Q3 nq3 cq3, .int .i64 (o1 : Nat), .int .i64 sa, .int .i64 sb, .int .i64 tx, .int .i64 ty, .int .i64 (o2 : Nat)] ∧ Mid lo Wc v ∧ Mid lo3 Wd3 v) ⟨hHeld, ((((((((B10.set 0 _).set 1 _).set 2 _).set 3 _).set 4 _).set 5 _).set 6 _).set 7 _), ((((((((HM.set (by omega) _).set (by omega) _).set (by omega) _).set (by omega) _).set (by omega) _).set (by omega) _).set (by omega) _).set (by omega) _), ((((((((hmd3.set (by omega) _).set (by omega) _).set (by omega) _).set (by omega) _).set (by omega) _).set (by omega) _).set (by omega) _).set (by omega) _)⟩ (fun wr25 hS => ?_)
    clear hHeld B10 HM hmd3
    obtain ⟨hHeld, B10, HM, hmd3⟩ := hS
    refine wpAnyH_take (i := 10) (oi := _) (v := ?vr26) rfl (by kernel_rfl) (by kernel_rfl) (by kernel_rfl) (fun _ _ _ h => h) (Or.inl ⟨by kernel_rfl, ?hyr26⟩) hHeld ?restr26
    case hyr26 => (intro w hSw; go_simp; first | done | (with_reducible rfl))
    try simp only [Act.put, PA, PB]
    refine wpAnyH_done (by kernel_rfl) ?_ _
    refine NoPanic.normal ?_
    have hbb2 := hHeld.toBelow hbb (fun k hk => hk.elim) hBV
    have b2 := B2.gb hHeld (fun h => h)
    have b3 := B3.gb hHeld (fun h => h)
    have hzz : wr0.heap.size ≠ w.heap.size + 2 ∧ wr0.heap.size ≠ w.heap.size + 3 := by
      have := hBV4
      exact ⟨by omega, by omega⟩
    go_upto_region 7 with fail
    refine at_worldQ (fun v => Below w.heap.size w v ∧ BK v (w.heap.size + 2) [.slice none 0 0, .slice none 0 0] ∧ BK v (w.heap.size + 3) [.int .i64 0, .int .i64 0, .int .i64 0, .int .i64 0, .int .i64 0, .int .i64 0] ∧ BK v (wr0.heap.size) [.slice A3 m3 ca3, .slice Q3 nq3 cq3, .int .i64 (o1 : Nat), .int .i64 sa, .int .i64 sb, .int .i64 tx, .int .i64 ty, .int .i64 (o2 : Nat)] ∧ Mid lo3 Wd3 v) ⟨hbb2, b2, b3, B10, hmd3⟩ (fun V7 hS => ?_)
    clear hHeld hbb hbb2 b2 b3 B10 hmd3 B2 B3 HM
    obtain ⟨hbb, BD, BT, BR, hmd⟩ := hS
    have hbv7 := BD.lt
    generalize wr0.heap.size = pr at *
    have x0 := BR.c 0 rfl
    have x1 := BR.c 1 rfl
    have x2 := BR.c 2 rfl
    have x3 := BR.c 3 rfl
    have x4 := BR.c 4 rfl
    have x5 := BR.c 5 rfl
    have x6 := BR.c 6 rfl
    have x7 := BR.c 7 rfl
    refine wp_region_noPanic ?_
    refine wp_region_held_drew (S := (GB (fun k => k = w.heap.size + 2 ∨ k = w.heap.size + 3) V7)) (by kernel_rfl) ((GB.refl _ _).drew) (fun hHeld => ?_)
    refine at_anyH (fun v => GB (fun k => k = w.heap.size + 2 ∨ k = w.heap.size + 3) V7 v ∧ BK v (w.heap.size + 2) [.slice none 0 0, .slice none 0 0] ∧ BK v (w.heap.size + 3) [.int .i64 0, .int .i64 0, .int .i64 0, .int .i64 0, .int .i64 0, .int .i64 0]) ⟨hHeld, BD.drew, BT.drew⟩ (fun wq0 hNew => ?_)
    clear hHeld BD BT
    obtain ⟨hHeld, BD, BT⟩ := hNew
    refine wpAnyH_take (i := 0) (oi := _) (v := ?vq17) rfl (by kernel_rfl) (by kernel_rfl) (by kernel_rfl) (fun _ _ _ h => h) (Or.inl ⟨by kernel_rfl, ?hyq17⟩) hHeld ?restq17
    case hyq17 => (intro w hSw; go_simp; first | done | (with_reducible rfl))
    try simp only [Act.put, PA, PB]
    refine wpAnyH_take (i := 1) (oi := _) (v := ?vq18) rfl (by kernel_rfl) (by kernel_rfl) (by kernel_rfl) (fun _ _ _ h => h) (Or.inl ⟨by kernel_rfl, ?hyq18⟩) hHeld ?restq18
    case hyq18 => (intro w hSw; have kx0 := hSw.cell (by omega) x0; have kx1 := hSw.cell (by omega) x1; have kx2 := hSw.cell (by omega) x2; have kx3 := hSw.cell (by omega) x3; have kx4 := hSw.cell (by omega) x4; have kx5 := hSw.cell (by omega) x5; have kx6 := hSw.cell (by omega) x6; have kx7 := hSw.cell (by omega) x7; go_simp; first | done | (with_reducible rfl))
    try simp only [Act.put, PA, PB]
    refine wpAnyH_take (i := 2) (oi := _) (v := ?vq19) rfl (by kernel_rfl) (by kernel_rfl) (by kernel_rfl) (fun _ _ _ h => h) (Or.inl ⟨by kernel_rfl, ?hyq19⟩) hHeld ?restq19
    case hyq19 => (intro w hSw; go_simp; first | done | (with_reducible rfl))
    try simp only [Act.put, PA, PB]
    refine wpAnyH_take (i := 3) (oi := _) (v := ?vq20) rfl (by kernel_rfl) (by kernel_rfl) (by kernel_rfl) (fun _ _ _ h => h) (Or.inl ⟨by kernel_rfl, ?hyq20⟩) hHeld ?restq20
    case hyq20 => (intro w hSw; have kx0 := hSw.cell (by omega) x0; have kx1 := hSw.cell (by omega) x1; have kx2 := hSw.cell (by omega) x2; have kx3 := hSw.cell (by omega) x3; have kx4 := hSw.cell (by omega) x4; have kx5 := hSw.cell (by omega) x5; have kx6 := hSw.cell (by omega) x6; have kx7 := hSw.cell (by omega) x7; go_simp; first | done | (with_reducible rfl))
    try simp only [Act.put, PA, PB]
    refine wpAnyH_take (i := 4) (oi := _) (v := ?vq21) rfl (by kernel_rfl) (by kernel_rfl) (by kernel_rfl) (fun _ _ _ h => h) (Or.inl ⟨by kernel_rfl, ?hyq21⟩) hHeld ?restq21
    case hyq21 => (intro w hSw; go_simp; first | done | (with_reducible rfl))
    try simp only [Act.put, PA, PB]
    refine wpAnyH_ready (rs := [5]) (by kernel_rfl) (by simp) (AllReadyH.cons (o := _) rfl (fun K hK => ?_) AllReadyH.nil)
    have n0 := BD.c 0 rfl
    have f0 := BD.f 0 rfl
    have n1 := BD.c 1 rfl
    have f1 := BD.f 1 rfl
    go_simp
    clear n0 f0 n1 f1
    refine hK.out _ _ ((hHeld.set (.inl (.inl rfl)) _).set (.inl (.inl rfl)) _) (fun hNew => ?_)
    clear hHeld hK K
    have hHeld := hNew
    clear hNew
    try simp only [Act.put, PA, PB]
    refine at_anyH (fun v => GB (fun k => k = w.heap.size + 2 ∨ k = w.heap.size + 3) V7 v ∧ BK v (w.heap.size + 2) [.slice A3 m3 ca3, .slice Q3 nq3 cq3] ∧ BK v (w.heap.size + 3) [.int .i64 0, .int .i64 0, .int .i64 0, .int .i64 0, .int .i64 0, .int .i64 0]) ⟨hHeld, ((BD.set 0 _).set 1 _), ((BT.far (by omega) _ _).far (by omega) _ _)⟩ (fun wq22 hS => ?_)
    clear hHeld BD BT
    obtain ⟨hHeld, BD, BT⟩ := hS
    refine wpAnyH_ready (rs := [6]) (by kernel_rfl) (by simp) (AllReadyH.cons (o := _) rfl (fun K hK => ?_) AllReadyH.nil)
    have n0 := BT.c 0 rfl
    have f0 := BT.f 0 rfl
    have n1 := BT.c 1 rfl
    have f1 := BT.f 1 rfl
    have n2 := BT.c 2 rfl
    have f2 := BT.f 2 rfl
    have n3 := BT.c 3 rfl
    have f3 := BT.f 3 rfl
    have n4 := BT.c 4 rfl
    have f4 := BT.f 4 rfl
    have n5 := BT.c 5 rfl
    have f5 := BT.f 5 rfl
    go_simp
    clear n0 f0 n1 f1 n2 f2 n3 f3 n4 f4 n5 f5
    refine hK.out _ _ ((((((hHeld.set (.inl (.inr rfl)) _).set (.inl (.inr rfl)) _).set (.inl (.inr rfl)) _).set (.inl (.inr rfl)) _).set (.inl (.inr rfl)) _).set (.inl (.inr rfl)) _) (fun hNew => ?_)
    clear hHeld hK K
    have hHeld := hNew
    clear hNew
    try simp only [Act.put, PA, PB]
    refine at_anyH (fun v => GB (fun k => k = w.heap.size + 2 ∨ k = w.heap.size + 3) V7 v ∧ BK v (w.heap.size + 2) [.slice A3 m3 ca3, .slice Q3 nq3 cq3] ∧ BK v (w.heap.size + 3) [.int .i64 (o1 : Nat), .int .i64 sa, .int .i64 sb, .int .i64 tx, .int .i64 ty, .int .i64 (o2 : Nat)]) ⟨hHeld, ((((((BD.far (by omega) _ _).far (by omega) _ _).far (by omega) _ _).far (by omega) _ _).far (by omega) _ _).far (by omega) _ _), ((((((BT.set 0 _).set 1 _).set 2 _).set 3 _).set 4 _).set 5 _)⟩ (fun wq23 hS => ?_)
    clear hHeld BD BT
    obtain ⟨hHeld, BD, BT⟩ := hS
    refine wpAnyH_take (i := 7) (oi := _) (v := ?vq24) rfl (by kernel_rfl) (by kernel_rfl) (by kernel_rfl) (fun _ _ _ h => h) (Or.inl ⟨by kernel_rfl, ?hyq24⟩) hHeld ?restq24
    case hyq24 => (intro w hSw; go_simp; first | done | (with_reducible rfl))
    try simp only [Act.put, PA, PB]
    refine wpAnyH_done (by kernel_rfl) ?_ _
    refine NoPanic.normal ?_
    have hbb2 := hHeld.toBelow hbb (fun k hk => by omega) (by omega)
    have r0 := BD.c 0 rfl
    have r1 := BD.c 1 rfl
    have t0 := BT.c 0 rfl
    have t1 := BT.c 1 rfl
    have t2 := BT.c 2 rfl
    have t3 := BT.c 3 rfl
    have t4 := BT.c 4 rfl
    have t5 := BT.c 5 rfl
    have hmf := hmd.gb hHeld (fun k h1 h2 hk => by
      have := HG3.out k h1 h2
      omega)
    go_wp2_with fail
    exact bodyPost_ret (v := .tuple #[.agg #[.slice A3 m3 ca3, .slice Q3 nq3 cq3], .agg #[.int .i64 (o1 : Nat), .int .i64 sa, .int .i64 sb, .int .i64 tx, .int .i64 ty, .int .i64 (o2 : Nat)], .int .i64 0]) (by simp [results, Try.results38, go_sem, r0, r1, t0, t1, t2, t3, t4, t5]) rfl ⟨A3, m3, ca3, Q3, nq3, cq3, cs3, lo3, Wd3, rfl, hbb2, HM3.out, HN3.out, HD3.out, HF3.out, hmf, fun k h1 h2 => by have := HG3.out k h1 h2; omega⟩
end Go.Proofs.Ytnnpmegknlgkoaa
