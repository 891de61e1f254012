/- The law ChooseFair. The walk of the law ChooseFair. -/
import Derived.Test.YtpcdggkajindbaaGreatGs
import Derived.Test.YtpcdggkajindbaaGreatHv
namespace Go.Proofs.YtpcdggkajindbaaGreat
open Go.RowKit
set_option linter.unusedSimpArgs false in
set_option maxHeartbeats 8000000 in
set_option maxRecDepth 100000 in
theorem rhalf_any (len : Int) (K : Option Addr) (cuts : List Int) (ck : Nat) (Z : Option Addr) (dens : List Int) (cz : Nat) (h1 h2 : Int) (w : World) (h : IsCake w len K cuts Z dens) (hc : Ck.chk len cuts dens = 0) (hh : Ch.hf (len, cuts, dens) = (h1, h2, 0)) :
    Calls Tryz.prog 13 #[.agg #[.int .i64 len, .slice K cuts.length ck, .slice Z dens.length cz]] w fun e w' => e = .returned (.agg #[.int .i64 h1, .int .i64 h2]) ∧ Below w.heap.size w w' := by
  have hG := Ck.chk_good hc; have t0 := (Ck.tot_bd hG _ (Nat.le_refl _)).1; have t1 := (Ck.tot_bd hG _ (Nat.le_refl _)).2; have l1 := hG.len1; have la := hG.last
  have wh := fun v (hv : Below w.heap.size w v) => rWhole_any len K cuts ck Z dens cz v (h.keep hv) hG
  have hh2 : Rp.makeS (Ck.tot cuts dens dens.length) 2 = (h1, h2, 0) := hh
  have t2 : Ck.tot cuts dens dens.length ≤ 12000 := by omega
  generalize Ck.tot cuts dens dens.length = T at *
  have mk := fun v => rMake_any T 2 (by omega) (by omega) (by omega) (by omega) v
  rw [hh2] at mk
  generalize cuts.length = m1 at *
  generalize dens.length = m2 at *
  have WH := Lib.hid wh; have MK := Lib.hid mk; clear wh mk hh hh2 t0 t1 t2 l1 la hG hc h
  go_enter Tryz.func13, Tryz.ntmps13
  go_upto_region 1 with fail
  refine at_worldQ (fun v => Below w.heap.size w v ∧ BK v (w.heap.size) [.int .i64 len, .slice K m1 ck, .slice Z m2 cz] ∧ BK v (w.heap.size + 1) [.int .i64 0, .int .i64 0] ∧ v.heap.size = w.heap.size + 2) ⟨(below_al (below_al (Below.refl _ _) _) _), (by have b := ((BK.new w [.int .i64 len, .slice K m1 ck, .slice Z m2 cz] 48).al (.cells #[.int .i64 0, .int .i64 0] 44)); simpa only [World.size_alloc] using b), (by have b := (BK.new (w.alloc (.cells #[.int .i64 len, .slice K m1 ck, .slice Z m2 cz] 48)) [.int .i64 0, .int .i64 0] 44); simpa only [World.size_alloc] using b), by simp only [World.size_alloc]⟩ (fun V hS => ?_); obtain ⟨hbb, B0, B1, hVs⟩ := hS; have p0 := B0.c 0 rfl; have p1 := B0.c 1 rfl; have p2 := B0.c 2 rfl; (go_wp2_with fail); refine (WH.out _ hbb).mono ?_; rintro e w1 ⟨rfl, hb1⟩; (go_wp2_with fail); refine (MK.out _).mono ?_; rintro e w2 ⟨rfl, hb2⟩; have hb := keepB hb1 hb2; replace hbb := keepB hbb hb; replace B1 := B1.keep hb; clear p0 p1 p2 hb1 hb2 hb B0 WH MK
  go_upto_region 2 with fail
  refine at_worldQ (fun v => Below w.heap.size w v ∧ BK v (w.heap.size + 1) [.int .i64 0, .int .i64 0] ∧ BK v w2.heap.size [.int .i64 h1, .int .i64 h2]) ⟨below_al hbb _, B1.al _, BK.new _ _ _⟩ (fun V3 hS => ?_); have hlt := B1.lt; clear hbb B1; obtain ⟨hbb, B1, B3⟩ := hS
  generalize w2.heap.size = p3 at *
  have r0 := B1.c 0 rfl; have r1 := B1.c 1 rfl; have f0 := B1.f 0 rfl; have f1 := B1.f 1 rfl; have m0 := B3.c 0 rfl; have m1 := B3.c 1 rfl; (go_wp2_with fail); exact bodyPost_ret (v := .agg #[.int .i64 h1, .int .i64 h2]) (by simp [results, Tryz.results13, go_sem, r0, r1]) rfl ⟨rfl, below_set (below_set hbb (by omega) _) (by omega) _⟩
set_option linter.unusedSimpArgs false in
set_option maxHeartbeats 8000000 in
set_option maxRecDepth 100000 in
theorem cfair_of (A : Option Addr) (ca : Nat) (cs : List CkR) (K : Nat) (hK : K < 2) (L : List Qr) (h1 h2 a0 b0 c0 d0 a1 b1 c1 d1 len : Int) (ag : Nat → Nat) (P : Nat → Rat) (w : World) (h : IsCs w A cs) (hl : cs.length = 2) (hft : Ch.fitP (cs.map Ak.dat) (K : Int) = true) (hc : Ak.chkS (cs.map Ak.dat) 0 = 0)
    (hrun : ∀ v, Below w.heap.size w v → Calls Tryz.prog 8 #[.slice A cs.length ca, .int .i64 (K : Int)] v (RunQ L a0 b0 c0 d0 a1 b1 c1 d1 v))
    (hL2 : L.length = 2) (hrep : Ak.repS (cs.map Ak.dat) L = (2, 0)) (hc0 : Ak.cntS L 0 = 1) (hc1 : Ak.cntS L 1 = 1) (o1 : Rp.Ok a0 b0) (o2 : Rp.Ok c0 d0) (o3 : Rp.Ok a1 b1) (o4 : Rp.Ok c1 d1)
    (hln : ∀ g0 g1, Pf.LnF (cs.map Ak.dat) [Ch.pcG g0 a0 b0 c0 d0, Ch.pcG g1 a1 b1 c1 d1] 2 len ag P) (hhf : Ch.hf (Ak.dAt (cs.map Ak.dat) K) = (h1, h2, 0)) (hown : ∀ g0 g1, Pf.wp (cs.map Ak.dat) [Ch.pcG g0 a0 b0 c0 d0, Ch.pcG g1 a1 b1 c1 d1] K K = (h1, h2)) :
    Calls Tryz.prog 3 #[.slice A cs.length ca, .int .i64 (K : Int)] w fun e w' => e = .returned (.bool true) ∧ Below w.heap.size w w' := by
  have ft := fit_any A ca cs (K : Int) w h; rw [hft] at ft; have hgd := Ak.chkS_good hc; have hm := Ak.cat_mem (l := cs) (k := K) (by omega); have hck : Ak.ckD (Ak.dat (Ak.cat cs K)) = 0 := hgd.all _ (List.mem_map_of_mem hm); rw [Ak.dAt_map cs (by omega)] at hhf
  have hfx := fun v (hv : Below w.heap.size w v) => rhalf_any (Ak.cat cs K).len (Ak.cat cs K).K (Ak.cat cs K).cuts (Ak.cat cs K).ck (Ak.cat cs K).Z (Ak.cat cs K).dens (Ak.cat cs K).cz h1 h2 v ((h.all _ hm).keep hv) hck hhf
  have rpl := fun v (hv : Below w.heap.size w v) Q cq (hq : IsQs v Q L) => askReplay_any A ca cs Q cq L v (h.keep hv) hq
  rw [hrep] at rpl
  have ct := fun v Q cq (hq : IsQs v Q L) (a : Int) => count_any Q cq L a v hq
  have ct0 := fun v Q cq (hq : IsQs v Q L) => ct v Q cq hq 0
  have ct1 := fun v Q cq (hq : IsQs v Q L) => ct v Q cq hq 1
  rw [hc0] at ct0; rw [hc1] at ct1
  have mk := fun (g0 g1 Pp cp : Nat) v (hv : Below w.heap.size w v) (hp : IsPs v (some ⟨Pp, 0, none⟩) [Ch.pcG g0 a0 b0 c0 d0, Ch.pcG g1 a1 b1 c1 d1]) =>
    pfmake_any A (some ⟨Pp, 0, none⟩) ca cp cs [Ch.pcG g0 a0 b0 c0 d0, Ch.pcG g1 a1 b1 c1 d1] v (h.keep hv) hp (hln g0 g1).dv (by rw [(hln g0 g1).cat_len]; decide) (by rw [(hln g0 g1).cat_len]; decide) (by rw [hl]; exact (hln g0 g1).hz) (fun ws hw a ha => (hln g0 g1).hd (by rw [hl] at hw; exact hw) (by omega))
  have ac := fun (g0 g1 Pp cp g cv : Nat) (vs : List Pf.RwR) v (hv : Below w.heap.size w v) (hp : IsPs v (some ⟨Pp, 0, none⟩) [Ch.pcG g0 a0 b0 c0 d0, Ch.pcG g1 a1 b1 c1 d1]) (hvs : IsWs v (some ⟨g, 0, none⟩) vs) (hvl : vs.map Pf.RwR.l = ((List.range cs.length).map fun k => (List.range cs.length).map (Pf.wp (cs.map Ak.dat) [Ch.pcG g0 a0 b0 c0 d0, Ch.pcG g1 a1 b1 c1 d1] k))) =>
    (pfaccept_any 23 Pf.bt23 Pf.bits23 (by decide) (by decide) A (some ⟨Pp, 0, none⟩) (some ⟨g, 0, none⟩) ca cp cv cs [Ch.pcG g0 a0 b0 c0 d0, Ch.pcG g1 a1 b1 c1 d1] vs v (h.keep hv) hp hvs hvl (hln g0 g1).dv (by rw [(hln g0 g1).cat_len]; decide) (by rw [(hln g0 g1).cat_len]; decide) (by rw [hl]; exact (hln g0 g1).hz)).mono (R' := fun e w' => e = .returned (.tuple #[.bool true, .int .i64 0]) ∧ Below v.heap.size v w') (by
      rintro e w' ⟨hb, F, ws, rfl, hrw, hF⟩; refine ⟨?_, hb⟩; rw [hl] at hrw
      rw [Pf.hs23 (fun j hj hb => (hln g0 g1).no23 hrw hb (hF j hj hb))])
  have mc := fun (g0 g1 : Nat) (F : Nat → Bool) (ws : List Pf.RwR) (rs : List (Int × Int)) (hrw : ws.map Pf.RwR.l = ((List.range cs.length).map fun k => (List.range cs.length).map (Pf.wp (cs.map Ak.dat) [Ch.pcG g0 a0 b0 c0 d0, Ch.pcG g1 a1 b1 c1 d1] k))) (hF : ∀ j, j < 5 → CeP cs [Ch.pcG g0 a0 b0 c0 d0, Ch.pcG g1 a1 b1 c1 d1] ws rs (LvP cs [Ch.pcG g0 a0 b0 c0 d0, Ch.pcG g1 a1 b1 c1 d1]) j (F j)) =>
    Pf.hs31 (F := F) (fun j hj hb => (hln g0 g1).no23 (by rw [hl] at hrw; exact hrw) hb (hF j hj))
  have rw_ := fun (g0 g1 : Nat) (ws : List Pf.RwR) (hrw : ws.map Pf.RwR.l = ((List.range cs.length).map fun k => (List.range cs.length).map (Pf.wp (cs.map Ak.dat) [Ch.pcG g0 a0 b0 c0 d0, Ch.pcG g1 a1 b1 c1 d1] k))) => (show ws.length = 2 ∧ (Pf.rat ws K).l.length = 2 ∧ Pf.iat (Pf.rat ws K).l K = (h1, h2) from (by
    have hwl : ws.length = 2 := by have := congrArg List.length hrw; rw [hl] at this; simpa using this
    have e : (Pf.rat ws K).l = (List.range 2).map (Pf.wp (cs.map Ak.dat) [Ch.pcG g0 a0 b0 c0 d0, Ch.pcG g1 a1 b1 c1 d1] K) := by
      have e1 : (Pf.rat ws K).l = (ws.map Pf.RwR.l)[K]'(by simp; omega) := by unfold Pf.rat; simp [hwl, hK]
      rw [e1]
      simp only [hrw, hl]
      simp
    refine ⟨hwl, by rw [e]; simp, ?_⟩; rw [e, ← hown g0 g1]
    unfold Pf.iat
    simp [hK]))
  obtain ⟨ab, ao, hA, hcc⟩ := h.cell (by omega); have ec := hcc K (by omega); subst hA
  simp only [List.length_cons, List.length_nil, Nat.reduceAdd] at mk ac
  rw [hl] at ft hrun rpl mk ac mc rw_ ⊢; obtain ⟨m1, hm1⟩ : ∃ z, (Ak.cat cs K).cuts.length = z := ⟨_, rfl⟩; obtain ⟨m2, hm2⟩ : ∃ z, (Ak.cat cs K).dens.length = z := ⟨_, rfl⟩; rw [hm1, hm2] at hfx; rw [hm1, hm2] at ec; rw [hL2] at rpl ct0 ct1; have HFX0 := Lib.hid hfx; have FT := Lib.hid ft; have RUN := Lib.hid hrun; have RPL := Lib.hid rpl; have CT0 := Lib.hid ct0; have CT1 := Lib.hid ct1; have MK := Lib.hid mk; have AC := Lib.hid ac; have MC := Lib.hid mc; have RW := Lib.hid rw_; have HEC := Lib.hid ec; have HDV := Lib.hid (fun (v : World) (B Pp g0 g1 : Nat) (hd : DivB B Pp g0 g1 a0 b0 c0 d0 a1 b1 c1 d1 v) => Ch.divB_isPs hd o1 o2 o3 o4); have HL2 := Lib.hid hL2; have HCL := Lib.hid hl
  have k1 : (K : Int) < 2 := by omega
  have k0 : (0 : Int) ≤ (K : Int) := by omega
  have y0 : ((2 : Int) != 2) = false := rfl; have y1 : (((1 : Nat) : Int) != 1) = false := rfl; clear hfx ft hrun rpl ct ct0 ct1 mk ac mc rw_ ec hcc hm hck hhf hgd hm1 hm2 hln hown hL2 hrep hc0 hc1 o1 o2 o3 o4 hl hc hft h
  go_enter Tryz.func3, Tryz.ntmps3
  (go_wp2_with fail); refine FT.out.mono ?_; rintro e w1 ⟨rfl, hbb⟩; clear FT; (go_wp2_with fail); refine (RUN.out _ hbb).mono ?_
  unfold RunQ
  rintro e w2 ⟨Pp, g0, g1, Q, nq, cq, rfl, hb, hnq, hq, hdv⟩; rw [HL2.out] at hnq; subst hnq; have hps := HDV.out _ _ _ _ _ hdv; replace hbb := keepB hbb hb; clear hb hdv RUN HDV
  go_upto_region 4 with fail
  refine at_worldQ (fun v => Below w.heap.size w v ∧ BK v w2.heap.size [.slice (some ⟨Pp, 0, none⟩) 2 2] ∧ IsQs v Q L ∧ IsPs v (some ⟨Pp, 0, none⟩) [Ch.pcG g0 a0 b0 c0 d0, Ch.pcG g1 a1 b1 c1 d1]) ⟨below_al hbb _, BK.new _ _ _, hq.keep (below_al (Below.refl _ _) _), hps.keep (below_al (Below.refl _ _) _)⟩ (fun V4 hS => ?_); clear hbb hq hps; obtain ⟨hbb, B3, hq, hps⟩ := hS; obtain ⟨p3, hp3⟩ : ∃ z, w2.heap.size = z := ⟨_, rfl⟩; rw [hp3] at B3 ⊢; clear hp3; have d0' := B3.c 0 rfl; have HQ := Lib.hid hq; have HPS := Lib.hid hps; clear hq hps; (go_wp2_with fail); refine (MK.out g0 g1 Pp 2 _ hbb HPS.out).mono ?_; rintro e w7 ⟨hb, F, g, ws, rs, rfl, hws, hrw, hF⟩; rw [HCL.out] at hrw; have hmc := MC.out g0 g1 F ws rs hrw hF; obtain ⟨hwl, hrl, hrk⟩ := RW.out g0 g1 ws hrw; obtain ⟨c, hcc⟩ : ∃ z, Pf.hs (fun _ => true) F 5 = z := ⟨_, rfl⟩; rw [hcc] at hmc ⊢; have HRW := Lib.hid hrw; replace hbb := keepB hbb hb; replace B3 := B3.keep hb; have HPS2 := Lib.hid (HPS.out.keep hb); have HQ2 := Lib.hid (HQ.out.keep hb); have HWS := Lib.hid hws.isWs; have HMC := Lib.hid hmc; have HWL := Lib.hid hwl; have HRL := Lib.hid hrl; have HRK := Lib.hid hrk; clear hb d0' HPS HQ hws hrw hcc MK MC RW hF hmc hwl hrl hrk
  go_upto_region 5 with fail
  refine at_worldQ (fun v => Below w.heap.size w v ∧ BK v p3 [.slice (some ⟨Pp, 0, none⟩) 2 2] ∧ BK v w7.heap.size [.int .u8 c, .slice (some ⟨g, 0, none⟩) 2 2] ∧ IsWs v (some ⟨g, 0, none⟩) ws ∧ IsPs v (some ⟨Pp, 0, none⟩) [Ch.pcG g0 a0 b0 c0 d0, Ch.pcG g1 a1 b1 c1 d1] ∧ IsQs v Q L) ⟨below_al hbb _, B3.al _, BK.new _ _ _, HWS.out.keep (below_al (Below.refl _ _) _), HPS2.out.keep (below_al (Below.refl _ _) _), HQ2.out.keep (below_al (Below.refl _ _) _)⟩ (fun V5 hS => ?_); clear hbb B3 HWS HPS2 HQ2; obtain ⟨hbb, B3, B8, hws, hps, hq⟩ := hS; obtain ⟨p8, hp8⟩ : ∃ z, w7.heap.size = z := ⟨_, rfl⟩; rw [hp8] at B8 ⊢; clear hp8; have rp := RPL.out V5 hbb Q cq hq; have RP := Lib.hid rp; have HQ := Lib.hid hq; have HPS := Lib.hid hps; have HWS := Lib.hid hws; clear rp RPL hq hps hws; (go_wp2_with fail); refine RP.out.mono ?_; rintro e w8 ⟨rfl, hb8⟩; (go_wp2_with fail); refine (CT0.out _ Q cq (HQ.out.keep hb8)).mono ?_; rintro e w9 ⟨rfl, hb9⟩; have hb10 := keepB hb8 hb9; (go_wp2_with fail); refine (CT1.out _ Q cq (HQ.out.keep hb10)).mono ?_; rintro e w10 ⟨rfl, hb11⟩; have hb12 := keepB hb10 hb11; replace hbb := keepB hbb hb12; replace B3 := B3.keep hb12; replace B8 := B8.keep hb12; have HPS2 := Lib.hid (HPS.out.keep hb12); have HWS2 := Lib.hid (HWS.out.keep hb12); clear hb8 hb9 hb10 hb11 hb12 HPS HWS HQ CT0 CT1 RP; have d0' := B3.c 0 rfl; have q1 := B8.c 1 rfl
  have ac := fun v hv hp hvs => AC.out g0 g1 Pp 2 g 2 ws v hv hp hvs HRW.out
  rw [HWL.out] at ac; have AC2 := Lib.hid ac; clear ac AC; (go_wp2_with fail); refine (AC2.out _ hbb HPS2.out HWS2.out).mono ?_; rintro e w11 ⟨rfl, hb⟩; replace hbb := keepB hbb hb; replace B8 := B8.keep hb; have HWS := Lib.hid (HWS2.out.keep hb); clear hb d0' q1 AC2 HPS2 HWS2 B3
  go_upto_region 9 with fail
  refine at_worldQ (fun v => Below w.heap.size w v ∧ BK v p8 [.int .u8 c, .slice (some ⟨g, 0, none⟩) 2 2] ∧ IsWs v (some ⟨g, 0, none⟩) ws) ⟨hbb, B8, HWS.out⟩ (fun V9 hS => ?_); clear hbb B8 HWS; obtain ⟨hbb, B8, hws⟩ := hS; have x0 := B8.c 0 rfl; have x1 := B8.c 1 rfl; obtain ⟨⟨tb, tq, hta, htc⟩, htr⟩ := hws; have tg := htc K (by rw [HWL.out]; exact hK); have hta := hta (by rw [HWL.out]; decide)
  simp only [Option.some.injEq, Addr.mk.injEq] at hta
  obtain ⟨rfl, rfl, -⟩ := hta; obtain ⟨rb, ro, hra, hrc⟩ := htr K (by rw [HWL.out]; exact hK); have hra := hra (by rw [HRL.out]; decide); have rc := hrc K (by rw [HRL.out]; exact hK); rw [hra, HRL.out, Nat.zero_add] at tg; rw [HRK.out] at rc; obtain ⟨r0, r1⟩ := rc; obtain ⟨e0, e1, e2⟩ := HEC.out; have e0 := keepC hbb e0; have e1 := keepC hbb e1; have e2 := keepC hbb e2
  have hfx := fun v (hv : Below V9.heap.size V9 v) => HFX0.out v (keepB hbb hv)
  generalize (Pf.rat ws K).cap = tc at *
  generalize (Ak.cat cs K).len = cl at *
  generalize (Ak.cat cs K).K = cK at *
  generalize (Ak.cat cs K).ck = cck at *
  generalize (Ak.cat cs K).Z = cZ at *
  generalize (Ak.cat cs K).cz = ccz at *
  have HFX := Lib.hid hfx; have hmc := HMC.out; clear hfx HFX0 hta htc htr hrc hra HWL HRL HRK HRW HEC HMC HL2 B8; refine wp_region_noPanic ?_; refine wp_region_held_drew (S := (Below V9.heap.size V9)) (by kernel_rfl) ((Below.refl _ _).drew) (fun hHeld => ?_); refine at_anyH (Below V9.heap.size V9) hHeld (fun wz0 hNew => ?_); clear hHeld; have hHeld := hNew; clear hNew
  have KCz := fun (w : World) (hSw : (Below V9.heap.size V9) w) => And.intro (keepC hSw x0) (And.intro (keepC hSw x1) (And.intro (keepC hSw tg) (And.intro (keepC hSw r0) (And.intro (keepC hSw r1) (And.intro (keepC hSw e0) (And.intro (keepC hSw e1) (keepC hSw e2)))))))
  refine tkn 0 ?vz1 rfl ?hyz1 hHeld ?restz1
  case hyz1 => (intro w hSw; go_simp <;> with_reducible rfl)
  (try simp only [PPz]); refine tkn 1 ?vz2 rfl ?hyz2 hHeld ?restz2
  case hyz2 => (intro w hSw; go_simp <;> with_reducible rfl)
  (try simp only [PPz]); refine tkn 2 ?vz3 rfl ?hyz3 hHeld ?restz3
  case hyz3 => (intro w hSw; go_simp <;> with_reducible rfl)
  (try simp only [PPz]); refine tkn 3 ?vz4 rfl ?hyz4 hHeld ?restz4
  case hyz4 => (intro w hSw; go_simp <;> with_reducible rfl)
  (try simp only [PPz]); refine tkn 4 ?vz5 rfl ?hyz5 hHeld ?restz5
  case hyz5 => (intro w hSw; go_simp <;> with_reducible rfl)
  (try simp only [PPz]); refine tkn 5 ?vz6 rfl ?hyz6 hHeld ?restz6
  case hyz6 => (intro w hSw; go_simp <;> with_reducible rfl)
  (try simp only [PPz]); refine tkn 6 ?vz7 rfl ?hyz7 hHeld ?restz7
  case hyz7 => (intro w hSw; go_simp <;> with_reducible rfl)
  (try simp only [PPz]); refine tkn 7 ?vz8 rfl ?hyz8 hHeld ?restz8
  case hyz8 => (intro w hSw; have kc := KCz w hSw; go_simp <;> with_reducible rfl)
  (try simp only [PPz]); refine tkn 8 ?vz9 rfl ?hyz9 hHeld ?restz9
  case hyz9 => (intro w hSw; go_simp <;> with_reducible rfl)
  (try simp only [PPz]); refine tkn 9 (.bool true) rfl ?_ hHeld ?_
  · go_simp
  (try simp only [PPz]); refine tkn 10 ?vz11 rfl ?hyz11 hHeld ?restz11
  case hyz11 => (intro w hSw; go_simp <;> with_reducible rfl)
  (try simp only [PPz]); refine tkn 11 ?vz12 rfl ?hyz12 hHeld ?restz12
  case hyz12 => (intro w hSw; go_simp <;> with_reducible rfl)
  (try simp only [PPz]); refine tkn 12 ?vz13 rfl ?hyz13 hHeld ?restz13
  case hyz13 => (intro w hSw; go_simp <;> with_reducible rfl)
  (try simp only [PPz]); refine tkn 13 ?vz14 rfl ?hyz14 hHeld ?restz14
  case hyz14 => (intro w hSw; have kc := KCz w hSw; go_simp <;> with_reducible rfl)
  (try simp only [PPz]); refine tkn 14 ?vz15 rfl ?hyz15 hHeld ?restz15
  case hyz15 => (intro w hSw; go_simp <;> with_reducible rfl)
  (try simp only [PPz]); refine tkn 15 ?vz16 rfl ?hyz16 hHeld ?restz16
  case hyz16 => (intro w hSw; go_simp <;> with_reducible rfl)
  (try simp only [PPz]); refine tkn 16 ?vz17 rfl ?hyz17 hHeld ?restz17
  case hyz17 => (intro w hSw; go_simp <;> with_reducible rfl)
  (try simp only [PPz]); refine tkn 17 ?vz18 rfl ?hyz18 hHeld ?restz18
  case hyz18 => (intro w hSw; go_simp <;> with_reducible rfl)
  (try simp only [PPz]); refine tkn 18 ?vz19 rfl ?hyz19 hHeld ?restz19
  case hyz19 => (intro w hSw; go_simp <;> with_reducible rfl)
  (try simp only [PPz]); refine tkn 19 ?vz20 rfl ?hyz20 hHeld ?restz20
  case hyz20 => (intro w hSw; have kc := KCz w hSw; go_simp <;> with_reducible rfl)
  (try simp only [PPz]); refine tkn 20 ?vz21 rfl ?hyz21 hHeld ?restz21
  case hyz21 => (intro w hSw; go_simp <;> with_reducible rfl)
  (try simp only [PPz]); refine tkn 21 ?vz22 rfl ?hyz22 hHeld ?restz22
  case hyz22 => (intro w hSw; go_simp <;> with_reducible rfl)
  (try simp only [PPz]); refine tkn 22 ?vz23 rfl ?hyz23 hHeld ?restz23
  case hyz23 => (intro w hSw; have kc := KCz w hSw; go_simp <;> with_reducible rfl)
  (try simp only [PPz]); refine tkn 23 ?vz24 rfl ?hyz24 hHeld ?restz24
  case hyz24 => (intro w hSw; go_simp <;> with_reducible rfl)
  (try simp only [PPz]); refine tkn 24 ?vz25 rfl ?hyz25 hHeld ?restz25
  case hyz25 => (intro w hSw; go_simp <;> with_reducible rfl)
  (try simp only [PPz]); refine tkn 25 ?vz26 rfl ?hyz26 hHeld ?restz26
  case hyz26 => (intro w hSw; go_simp <;> with_reducible rfl)
  (try simp only [PPz]); refine tkn 26 ?vz27 rfl ?hyz27 hHeld ?restz27
  case hyz27 => (intro w hSw; go_simp <;> with_reducible rfl)
  (try simp only [PPz]); refine tkn 27 ?vz28 rfl ?hyz28 hHeld ?restz28
  case hyz28 => (intro w hSw; go_simp <;> with_reducible rfl)
  (try simp only [PPz]); refine tkn 28 ?vz29 rfl ?hyz29 hHeld ?restz29
  case hyz29 => (intro w hSw; have kc := KCz w hSw; go_simp <;> with_reducible rfl)
  (try simp only [PPz]); refine tkn 29 ?vz30 rfl ?hyz30 hHeld ?restz30
  case hyz30 => (intro w hSw; go_simp <;> with_reducible rfl)
  (try simp only [PPz]); refine tkn 30 ?vz31 rfl ?hyz31 hHeld ?restz31
  case hyz31 => (intro w hSw; go_simp <;> with_reducible rfl)
  (try simp only [PPz]); refine tkn 31 ?vz32 rfl ?hyz32 hHeld ?restz32
  case hyz32 => (intro w hSw; have kc := KCz w hSw; go_simp <;> with_reducible rfl)
  (try simp only [PPz]); refine tkn 32 ?vz33 rfl ?hyz33 hHeld ?restz33
  case hyz33 => (intro w hSw; go_simp <;> with_reducible rfl)
  (try simp only [PPz]); refine tkn 33 ?vz34 rfl ?hyz34 hHeld ?restz34
  case hyz34 => (intro w hSw; go_simp <;> with_reducible rfl)
  (try simp only [PPz]); refine tkn 34 ?vz35 rfl ?hyz35 hHeld ?restz35
  case hyz35 => (intro w hSw; have kc := KCz w hSw; go_simp <;> with_reducible rfl)
  (try simp only [PPz]); refine tkn 35 ?vz36 rfl ?hyz36 hHeld ?restz36
  case hyz36 => (intro w hSw; go_simp <;> with_reducible rfl)
  (try simp only [PPz]); refine tkn 36 ?vz37 rfl ?hyz37 hHeld ?restz37
  case hyz37 => (intro w hSw; go_simp <;> with_reducible rfl)
  (try simp only [PPz]); refine tkn 37 ?vz38 rfl ?hyz38 hHeld ?restz38
  case hyz38 => (intro w hSw; go_simp <;> with_reducible rfl)
  (try simp only [PPz]); refine tkn 38 ?vz39 rfl ?hyz39 hHeld ?restz39
  case hyz39 => (intro w hSw; have kc := KCz w hSw; go_simp <;> with_reducible rfl)
  (try simp only [PPz]); refine rdy1 39 rfl (fun K hK => ?_); go_simp; refine (HFX.out _ hHeld).mono ?_; rintro e wz40 ⟨rfl, hb3⟩; (go_wp2_with fail); refine hK.out _ _ (keepB hHeld hb3) (fun hNew => ?_); clear hb3; clear hHeld hK K; have hHeld := hNew; clear hNew; (try simp only [PPz]); refine tkn 40 ?vz41 rfl ?hyz41 hHeld ?restz41
  case hyz41 => (intro w hSw; go_simp <;> with_reducible rfl)
  (try simp only [PPz]); refine tkn 41 ?vz42 rfl ?hyz42 hHeld ?restz42
  case hyz42 => (intro w hSw; go_simp <;> with_reducible rfl)
  (try simp only [PPz]); refine tkn 42 ?vz43 rfl ?hyz43 hHeld ?restz43
  case hyz43 => (intro w hSw; go_simp <;> with_reducible rfl)
  (try simp only [PPz]); refine rdy1 43 rfl (fun K hK => ?_); go_simp; refine (alive7_any _).mono ?_; rintro e wz44 ⟨rfl, hb3⟩; (go_wp2_with fail); refine hK.out _ _ (keepB hHeld hb3) (fun hNew => ?_); clear hb3; clear hHeld hK K; have hHeld := hNew; clear hNew; (try simp only [PPz]); refine tkn 44 ?vz45 rfl ?hyz45 hHeld ?restz45
  case hyz45 => (intro w hSw; go_simp <;> with_reducible rfl)
  (try simp only [PPz]); refine tkn 45 ?vz46 rfl ?hyz46 hHeld ?restz46
  case hyz46 => (intro w hSw; go_simp <;> with_reducible rfl)
  (try simp only [PPz]); refine wpAnyH_done (by kernel_rfl) ?_ _; refine NoPanic.normal ?_; replace hbb := keepB hbb hHeld; clear hHeld; (go_wp2_with fail)
  go_ret
  exact ⟨rfl, hbb⟩
end Go.Proofs.YtpcdggkajindbaaGreat
namespace Go.Proofs.YtpcdggkajindbaaGreat
open Go.RowKit
theorem choosefair_walk (A : Option Addr) (ca : Nat) (cs : List CkR) (K : Int) (w : World) (h : IsCs w A cs) :
    Calls Tryz.prog 3 #[.slice A cs.length ca, .int .i64 K] w fun e w' => e = .returned (.bool true) ∧ Below w.heap.size w w' := by
  cases hft : Ch.fitP (cs.map Ak.dat) K
  case false =>
    have ft := fit_any A ca cs K w h; rw [hft] at ft; have FT := Lib.hid ft; clear ft hft h
    go_enter Tryz.func3, Tryz.ntmps3
    (go_wp2_with fail); refine FT.out.mono ?_; rintro e w1 ⟨rfl, hb⟩; (go_wp2_with fail); refine (alive7_any _).mono ?_; rintro e w2 ⟨rfl, hb2⟩; (go_wp2_with fail)
    go_ret
    exact ⟨rfl, keepB hb hb2⟩
  obtain ⟨hc, hl, hK⟩ := Ch.fit_of hft; have g := Ak.chkS_good hc
  have hcl : cs.length = 2 := by rwa [List.length_map] at hl
  have hm0 : Ak.dAt (cs.map Ak.dat) 0 ∈ cs.map Ak.dat := by rw [Ak.dAt_map cs (by omega)]; exact List.mem_map_of_mem (Ak.cat_mem (by omega))
  have hm1 : Ak.dAt (cs.map Ak.dat) 1 ∈ cs.map Ak.dat := by rw [Ak.dAt_map cs (by omega)]; exact List.mem_map_of_mem (Ak.cat_mem (by omega))
  have g0 := g.all _ hm0; have g1 := g.all _ hm1; have gl := g.same _ hm1; have hG := Ck.chk_good (show Ck.chk (Ak.dAt (cs.map Ak.dat) 0).1 (Ak.dAt (cs.map Ak.dat) 0).2.1 (Ak.dAt (cs.map Ak.dat) 0).2.2 = 0 from g0); have l0 := hG.len0; have l1 := hG.len1; obtain ⟨len, hlen⟩ : ∃ z, (Ak.dAt (cs.map Ak.dat) 0).1 = z := ⟨_, rfl⟩; rw [hlen] at l0 l1; have ol : Rp.Ok len 1 := Rp.Ok_one (by omega) (by omega)
  have o0 : Rp.Ok 0 1 := by decide
  have q0 : Rp.q 0 1 = 0 := Rp.q_one 0; have ql : Rp.q len 1 = (len : Rat) := Rp.q_one len
  rcases hK with rfl | rfl
  · obtain ⟨h1, h2, g1', g2', x, y, v1, v2, z, e1, e2, e3, e4, e5, b1, b2, b3, b4, b5, b6, b7, b8⟩ := Ch.rn_of g0 g1 gl
    have R : Ch.Rn (cs.map Ak.dat) 0 1 h1 h2 g1' g2' x y v1 v2 z := ⟨.inl ⟨rfl, rfl⟩, e1, e2, e3, e4, e5, b1, b2, b3, b4, b5, b6, b7, b8⟩
    have run := fun v (hv : Below w.heap.size w v) => R.run0 hc hl len hlen A ca cs v (h.keep hv) rfl
    have rep := Ch.rn_rep hc hl R
    by_cases hz : 0 ≤ z
    · simp only [if_pos hz] at run
      have hb : Ch.left0 0 z = false := by simp [Ch.left0, hz]
      have ln := fun s0 s1 => Ch.rn_line (ps := [Ch.pcG s0 x y len 1, Ch.pcG s1 0 1 x y]) hc hl R hlen rfl (by rw [hb]; show [(Rp.q x y, Rp.q len 1)] = _; rw [ql]; rfl) (by rw [hb]; show [(Rp.q 0 1, Rp.q x y)] = _; rw [q0]; rfl)
      have ow := fun s0 s1 => Ch.rn_own (ps := [Ch.pcG s0 x y len 1, Ch.pcG s1 0 1 x y]) hc hl R hlen rfl (by rw [hb]; show [(Rp.q x y, Rp.q len 1)] = _; rw [ql]; rfl) (by rw [hb]; show [(Rp.q 0 1, Rp.q x y)] = _; rw [q0]; rfl)
      have ox := (ln 0 0).1; exact cfair_of A ca cs 0 (by decide) _ h1 h2 _ _ _ _ _ _ _ _ len _ _ w h hcl hft hc run rfl rep (by simp [Ak.cntS, Ak.cnt]) (by simp [Ak.cntS, Ak.cnt]) ox ol o0 ox (fun s0 s1 => (ln s0 s1).2.2.2.2) e1 ow
    · simp only [if_neg hz] at run
      have hb : Ch.left0 0 z = true := by simp [Ch.left0, hz]
      have ln := fun s0 s1 => Ch.rn_line (ps := [Ch.pcG s0 0 1 x y, Ch.pcG s1 x y len 1]) hc hl R hlen rfl (by rw [hb]; show [(Rp.q 0 1, Rp.q x y)] = _; rw [q0]; rfl) (by rw [hb]; show [(Rp.q x y, Rp.q len 1)] = _; rw [ql]; rfl)
      have ow := fun s0 s1 => Ch.rn_own (ps := [Ch.pcG s0 0 1 x y, Ch.pcG s1 x y len 1]) hc hl R hlen rfl (by rw [hb]; show [(Rp.q 0 1, Rp.q x y)] = _; rw [q0]; rfl) (by rw [hb]; show [(Rp.q x y, Rp.q len 1)] = _; rw [ql]; rfl)
      have ox := (ln 0 0).1; exact cfair_of A ca cs 0 (by decide) _ h1 h2 _ _ _ _ _ _ _ _ len _ _ w h hcl hft hc run rfl rep (by simp [Ak.cntS, Ak.cnt]) (by simp [Ak.cntS, Ak.cnt]) o0 ox ox ol (fun s0 s1 => (ln s0 s1).2.2.2.2) e1 ow
  · obtain ⟨h1, h2, g1', g2', x, y, v1, v2, z, e1, e2, e3, e4, e5, b1, b2, b3, b4, b5, b6, b7, b8⟩ := Ch.rn_of g1 g0 gl.symm
    have R : Ch.Rn (cs.map Ak.dat) 1 0 h1 h2 g1' g2' x y v1 v2 z := ⟨.inr ⟨rfl, rfl⟩, e1, e2, e3, e4, e5, b1, b2, b3, b4, b5, b6, b7, b8⟩
    have run := fun v (hv : Below w.heap.size w v) => R.run1 hc hl len hlen A ca cs v (h.keep hv) rfl
    have rep := Ch.rn_rep hc hl R
    by_cases hz : 0 ≤ z
    · simp only [if_pos hz] at run
      have hb : Ch.left0 1 z = true := by simp [Ch.left0, hz]
      have ln := fun s0 s1 => Ch.rn_line (ps := [Ch.pcG s0 0 1 x y, Ch.pcG s1 x y len 1]) hc hl R hlen rfl (by rw [hb]; show [(Rp.q 0 1, Rp.q x y)] = _; rw [q0]; rfl) (by rw [hb]; show [(Rp.q x y, Rp.q len 1)] = _; rw [ql]; rfl)
      have ow := fun s0 s1 => Ch.rn_own (ps := [Ch.pcG s0 0 1 x y, Ch.pcG s1 x y len 1]) hc hl R hlen rfl (by rw [hb]; show [(Rp.q 0 1, Rp.q x y)] = _; rw [q0]; rfl) (by rw [hb]; show [(Rp.q x y, Rp.q len 1)] = _; rw [ql]; rfl)
      have ox := (ln 0 0).1; exact cfair_of A ca cs 1 (by decide) _ h1 h2 _ _ _ _ _ _ _ _ len _ _ w h hcl hft hc run rfl rep (by simp [Ak.cntS, Ak.cnt]) (by simp [Ak.cntS, Ak.cnt]) o0 ox ox ol (fun s0 s1 => (ln s0 s1).2.2.2.2) e1 ow
    · simp only [if_neg hz] at run
      have hb : Ch.left0 1 z = false := by simp [Ch.left0, hz]
      have ln := fun s0 s1 => Ch.rn_line (ps := [Ch.pcG s0 x y len 1, Ch.pcG s1 0 1 x y]) hc hl R hlen rfl (by rw [hb]; show [(Rp.q x y, Rp.q len 1)] = _; rw [ql]; rfl) (by rw [hb]; show [(Rp.q 0 1, Rp.q x y)] = _; rw [q0]; rfl)
      have ow := fun s0 s1 => Ch.rn_own (ps := [Ch.pcG s0 x y len 1, Ch.pcG s1 0 1 x y]) hc hl R hlen rfl (by rw [hb]; show [(Rp.q x y, Rp.q len 1)] = _; rw [ql]; rfl) (by rw [hb]; show [(Rp.q 0 1, Rp.q x y)] = _; rw [q0]; rfl)
      have ox := (ln 0 0).1; exact cfair_of A ca cs 1 (by decide) _ h1 h2 _ _ _ _ _ _ _ _ len _ _ w h hcl hft hc run rfl rep (by simp [Ak.cntS, Ak.cnt]) (by simp [Ak.cntS, Ak.cnt]) ox ol o0 ox (fun s0 s1 => (ln s0 s1).2.2.2.2) e1 ow
end Go.Proofs.YtpcdggkajindbaaGreat

