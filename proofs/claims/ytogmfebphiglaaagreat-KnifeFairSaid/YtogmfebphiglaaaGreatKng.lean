/- The law KnifeFair. -/
import Derived.Test.YtogmfebphiglaaaGreatKnz
import Derived.Test.YtogmfebphiglaaaGreatM52
namespace Go.Proofs.YtogmfebphiglaaaGreat
open Go.RowKit
set_option linter.unusedSimpArgs false in
set_option maxHeartbeats 8000000 in
set_option maxRecDepth 100000 in
theorem kfair_walk (A : Option Addr) (ca : Nat) (cs : List CkR) (w : World) (h : IsCs w A cs) :
 Calls Tryz.prog 5 #[.slice A cs.length ca] w fun e w' => e = .returned (.bool true)∧Below w.heap.size w w':=by
 have ft:=Kn.fit_any A ca cs w h
 cases hft : Kn.fitP (cs.map Ak.dat)
 case false =>
  rw [hft] at ft;have FT:=Lib.hid ft;clear ft hft h
  go_enter Tryz.func5,Tryz.ntmps5
  (go_wp2_with fail);refine FT.out.mono ?_;rintro e w1 ⟨rfl,hb⟩;(go_wp2_with fail);refine (alive11_any _).mono ?_;rintro e w2 ⟨rfl,hb2⟩;(go_wp2_with fail)
  go_ret
  exact ⟨rfl,keepB hb hb2⟩
 rw [hft] at ft;have hc:=Kn.fit_of hft;obtain ⟨D,hD⟩ : ∃ z,cs.map Ak.dat = z:=⟨_,rfl⟩;rw [hD] at hc;have hgd:=Ak.chkS_good hc;have hn6:=hgd.l1;have hn1:=hgd.l0;obtain ⟨nn,hnn⟩ : ∃ z,cs.length = z:=⟨_,rfl⟩
 have hDl : D.length = nn:=by rw [← hD,List.length_map,hnn]
 obtain ⟨n,hn⟩ : ∃ z : Int,z = (D.length : Nat):=⟨_,rfl⟩;obtain ⟨len,hlen⟩ : ∃ z,(Ak.dAt D 0).1 = z:=⟨_,rfl⟩
 have run:=fun v (hv : Below w.heap.size w v) => knspans_any D n len nn A ca cs v (h.keep hv) hD hc hnn hlen hn (fun k hk => Kn.tk_new hc hn hlen (by omega))
 have hag:=Kn.tk_perm hc hn hlen;have hch:=Kn.tk_chE hc hn hlen;have hpc:=Kn.tk_pcp hc hn hlen;have lgr:=Kn.log_right hc hn hlen D.length (Nat.le_refl _);have lgl:=Kn.log_len hc hn hlen
 have aglt:=fun k (hk : k < D.length) => Kn.ag_lt hc hn hlen hk
 have wps:=fun G k (hk : k + 1 < D.length) => Kn.wp_share hc hn hlen G hk
 have shr : ∀ k,k < nn → ∀ v,Below w.heap.size w v → Calls Tryz.prog 30 #[.agg #[.slice A nn ca,.slice none 0 0],.int .i64 ((Kn.agk D n len k : Nat) : Int)] v fun e w' => e = .returned (.agg #[.int .i64 (Ch.sh n (Ak.dAt D (Kn.agk D n len k))).1,.int .i64 (Ch.sh n (Ak.dAt D (Kn.agk D n len k))).2.1])∧Below v.heap.size v w':=fun k hk v hb => by
  have:=rshare_any A ca cs none 0 0 (Kn.agk D n len k) n v (h.keep hb) (by rw [hD];exact hc) (by have:=aglt k (by omega);omega) (by omega);rw [hD,hnn] at this;exact this
 rw [hDl] at hag hch hpc lgr lgl aglt wps
 have lnf:=fun G => Kn.lnF_of hc hn hlen hDl hag hch hpc G
 have hbd : (Kn.sts D n len nn).L.length ≤ 20:=by
  have : nn = 1 ∨ nn = 2 ∨ nn = 3 ∨ nn = 4 ∨ nn = 5 ∨ nn = 6:=by omega
  rcases this with e | e | e | e | e | e <;> rw [e] at lgl ⊢ <;> omega
 have rep:=Kn.rep_all hc lgr (by omega)
 have ips:=fun (v : World) (Pp : Nat) (G : Nat → Nat) (hB : BK v Pp (Kn.pvs nn (Kn.Tk D n len nn) G (fun _ => Value.slice none 0 0))) (hG : ∀ t ∈ Kn.Tk D n len nn,BK v (G t.1) (Kn.spc t)) => Kn.pcs_isPs hag hpc hB hG
 have rpl:=fun v (hv : Below w.heap.size w v) Q cq (hq : IsQs v Q (Kn.sts D n len nn).L) => askReplay_any A ca cs Q cq (Kn.sts D n len nn).L v (h.keep hv) hq
 rw [hD,rep] at rpl;subst hD
 have mk:=fun (G : Nat → Nat) (Pp cp : Nat) v (hv : Below w.heap.size w v) (hp : IsPs v (some ⟨Pp,0,none⟩) ((List.range nn).map (Kn.pcR (Kn.Tk (cs.map Ak.dat) n len nn) G))) =>
  pfmake_any A (some ⟨Pp,0,none⟩) ca cp cs ((List.range nn).map (Kn.pcR (Kn.Tk (cs.map Ak.dat) n len nn) G)) v (h.keep hv) hp (lnf G).dv (by rw [(lnf G).cat_len];omega) (by rw [(lnf G).cat_len];omega) (by rw [hnn];exact (lnf G).hz) (fun ws hw a ha => (lnf G).hd (by rw [hnn] at hw;exact hw) (by omega))
 have ac:=fun (G : Nat → Nat) (Pp cp : Nat) (g cv : Nat) (vs : List Pf.RwR) v (hv : Below w.heap.size w v) (hp : IsPs v (some ⟨Pp,0,none⟩) ((List.range nn).map (Kn.pcR (Kn.Tk (cs.map Ak.dat) n len nn) G))) (hvs : IsWs v (some ⟨g,0,none⟩) vs) (hvl : vs.map Pf.RwR.l = ((List.range cs.length).map fun k => (List.range cs.length).map (Pf.wp (cs.map Ak.dat) ((List.range nn).map (Kn.pcR (Kn.Tk (cs.map Ak.dat) n len nn) G)) k))) =>
  (pfaccept_any 19 Pf.bt19 Kn.bits19 (by decide) (by decide) A (some ⟨Pp,0,none⟩) (some ⟨g,0,none⟩) ca cp cv cs ((List.range nn).map (Kn.pcR (Kn.Tk (cs.map Ak.dat) n len nn) G)) vs v (h.keep hv) hp hvs hvl (lnf G).dv (by rw [(lnf G).cat_len];omega) (by rw [(lnf G).cat_len];omega) (by rw [hnn];exact (lnf G).hz)).mono (R':=fun e w' => e = .returned (.tuple #[.bool true,.int .i64 0])∧Below v.heap.size v w') (by
   rintro e w' ⟨hb,F,ws,rfl,hrw,hF⟩;refine ⟨?_,hb⟩
   rw [(lnf G).claims hnn hrw hF])
 simp only [List.length_map,List.length_range] at mk ac
 generalize hD : cs.map Ak.dat = D at *
 have wlen : ∀ G (ws : List Pf.RwR),ws.map Pf.RwR.l = ((List.range nn).map fun k => (List.range nn).map (Pf.wp D ((List.range nn).map (Kn.pcR (Kn.Tk D n len nn) G)) k)) → ∀ x,x < nn → (Pf.rat ws x).l = (List.range nn).map (Pf.wp D ((List.range nn).map (Kn.pcR (Kn.Tk D n len nn) G)) x):=fun G ws hw x hx => by
  have hwl : ws.length = nn:=by have:=congrArg List.length hw;simpa using this
  have e1 : (Pf.rat ws x).l = (ws.map Pf.RwR.l)[x]'(by simp;omega):=by unfold Pf.rat;simp [hwl,hx]
  rw [e1]
  simp only [hw]
  simp
 rw [hnn] at ft rpl mk ac;rw [hnn];obtain ⟨m,hm⟩ : ∃ z,(Kn.sts D n len nn).L.length = z:=⟨_,rfl⟩;rw [hm] at rpl lgl;rw [hDl] at hn6 hn1
 have hmm : ((m : Int) != (m : Int)) = false:=by simp
 have hnm : ((nn : Int) != (nn : Int)) = false:=by simp
 have hq1 : IntKind.i64.wrap ((nn : Int) * ((nn : Int) + 1)) = 2 * ((m : Int) + 1):=by
  have e : (nn : Int) * ((nn : Int) + 1) = 2 * ((m : Int) + 1):=by exact_mod_cast lgl.symm
  rw [e]
  have : m ≤ 20:=by omega
  exact IntWalk.i64_in _ (by omega)
 have hq2 : (2 * ((m : Int) + 1)).tdiv 2 = (m : Int) + 1:=by rw [Int.tdiv_eq_ediv_of_nonneg (by omega)];omega
 have hm20 : m ≤ 20:=by omega
 have FT:=Lib.hid ft;have RUN:=Lib.hid run;have IPS:=Lib.hid ips;have RPL:=Lib.hid rpl;have MK:=Lib.hid mk;have AC:=Lib.hid ac;have SHR:=Lib.hid shr;have WPS:=Lib.hid wps;have WLN:=Lib.hid wlen;have AGL:=Lib.hid aglt;have HM:=Lib.hid hm;have HD:=Lib.hid hD;have HNN:=Lib.hid hnn;clear ft run ips rpl mk ac shr wps wlen aglt hm h rep lnf lgr lgl hag hch hpc hn hlen hgd hc hft hDl hnn hD hbd
 unfold RunK at RUN
 (try dsimp only at RUN)
 go_enter Tryz.func5,Tryz.ntmps5
 (go_wp2_with fail);refine FT.out.mono ?_;rintro e w1 ⟨rfl,hb⟩;have hbb:=hb;clear hb FT;(go_wp2_with fail);refine (RUN.out _ hbb).mono ?_;rintro e w2 ⟨Pp,go,co,Q,nq,cq,G,rfl,hb,hnq,hq,hpo,hpp,hpg⟩;rw [HM.out] at hnq;subst hnq;replace hbb:=keepB hbb hb;clear hb RUN
 go_upto_region 4 with fail
 refine at_worldQ (fun v => Below w.heap.size w v∧BK v w2.heap.size [.slice (some ⟨Pp,0,none⟩) nn nn]∧IsQs v Q (Kn.sts D n len nn).L∧BK v go ((Kn.ors D n len nn).map (Value.int .i64))∧BK v Pp (Kn.pvs nn (Kn.Tk D n len nn) G (fun _ => Value.slice none 0 0))∧∀ t ∈ Kn.Tk D n len nn,BK v (G t.1) (Kn.spc t)) ⟨below_al hbb _,BK.new _ _ _,hq.keep (below_al (Below.refl _ _) _),hpo.al _,hpp.al _,fun t ht => (hpg t ht).al _⟩ (fun V4 hS => ?_);clear hbb hq hpo hpp hpg;obtain ⟨hbb,B3,hq,hpo,hpp,hpg⟩:=hS;obtain ⟨p3,hp3⟩ : ∃ z,w2.heap.size = z:=⟨_,rfl⟩;rw [hp3] at B3 ⊢;clear hp3;have HQ:=Lib.hid hq;have HPO:=Lib.hid hpo;have HPP:=Lib.hid hpp;have HPG:=Lib.hid hpg;clear hq hpo hpp hpg;(go_wp2_with fail);refine (RPL.out _ hbb Q cq HQ.out).mono ?_;rintro e w5 ⟨rfl,hb⟩;replace hbb:=keepB hbb hb;replace B3:=B3.keep hb;replace HPO:=Lib.hid (HPO.out.keep hb);replace HPP:=Lib.hid (HPP.out.keep hb);replace HPG:=Lib.hid (fun t ht => (HPG.out t ht).keep hb);clear hb HQ RPL;have d0:=B3.c 0 rfl;(go_wp2_with fail);refine (MK.out G Pp nn _ hbb (IPS.out _ Pp G HPP.out HPG.out)).mono ?_;rintro e w6 ⟨hb,F,g,ws,rs,rfl,hws,hrw,-⟩;obtain ⟨c,hcc⟩ : ∃ z,Pf.hs (fun _ => true) F 5 = z:=⟨_,rfl⟩;rw [hcc];rw [HD.out,HNN.out] at hrw
 have hwl : ws.length = nn:=by have:=congrArg List.length hrw;simpa using this
 have HRW:=Lib.hid hrw;replace hbb:=keepB hbb hb;replace B3:=B3.keep hb;replace HPO:=Lib.hid (HPO.out.keep hb);replace HPP:=Lib.hid (HPP.out.keep hb);replace HPG:=Lib.hid (fun t ht => (HPG.out t ht).keep hb);have HWS:=Lib.hid hws.isWs;clear hb d0 hws hrw hcc MK
 go_upto_region 6 with fail
 refine at_worldQ (fun v => Below w.heap.size w v∧BK v p3 [.slice (some ⟨Pp,0,none⟩) nn nn]∧BK v w6.heap.size [.int .u8 c,.slice (some ⟨g,0,none⟩) nn nn]∧IsWs v (some ⟨g,0,none⟩) ws∧BK v go ((Kn.ors D n len nn).map (Value.int .i64))∧BK v Pp (Kn.pvs nn (Kn.Tk D n len nn) G (fun _ => Value.slice none 0 0))∧∀ t ∈ Kn.Tk D n len nn,BK v (G t.1) (Kn.spc t)) ⟨below_al hbb _,B3.al _,BK.new _ _ _,HWS.out.keep (below_al (Below.refl _ _) _),HPO.out.al _,HPP.out.al _,fun t ht => (HPG.out t ht).al _⟩ (fun V6 hS => ?_);clear hbb B3 HWS HPO HPP HPG;obtain ⟨hbb,B3,B9,hws,hpo,hpp,hpg⟩:=hS;obtain ⟨p9,hp9⟩ : ∃ z,w6.heap.size = z:=⟨_,rfl⟩;rw [hp9] at B9 ⊢;clear hp9;have ac:=AC.out G Pp nn g nn ws V6 hbb (IPS.out _ Pp G hpp hpg) hws HRW.out;rw [hwl] at ac;have AC2:=Lib.hid ac;have HWL:=Lib.hid hwl;have HWS:=Lib.hid hws;have HPO:=Lib.hid hpo;have HPP:=Lib.hid hpp;have HPG:=Lib.hid hpg;clear ac AC hws hpo hpp hpg hwl IPS;have d0:=B3.c 0 rfl;have c1:=B9.c 1 rfl;(go_wp2_with fail);refine AC2.out.mono ?_;rintro e w8 ⟨rfl,hb⟩;replace hbb:=keepB hbb hb;replace B3:=B3.keep hb;replace B9:=B9.keep hb;replace HPO:=Lib.hid (HPO.out.keep hb);replace HPP:=Lib.hid (HPP.out.keep hb);replace HPG:=Lib.hid (fun t ht => (HPG.out t ht).keep hb);replace HWS:=Lib.hid (HWS.out.keep hb);clear hb AC2 d0 c1;have d0:=B3.c 0 rfl;have c1:=B9.c 1 rfl;(go_wp2_with fail);refine (Kn.of_any 0 _).mono ?_;rintro e wA ⟨rfl,hb⟩;replace hbb:=keepB hbb hb;replace B3:=B3.keep hb;replace B9:=B9.keep hb;replace HPO:=Lib.hid (HPO.out.keep hb);replace HPP:=Lib.hid (HPP.out.keep hb);replace HPG:=Lib.hid (fun t ht => (HPG.out t ht).keep hb);replace HWS:=Lib.hid (HWS.out.keep hb);clear hb d0 c1;have hwA:=hbb.size;have CJ:=Lib.hid (fun (j : Nat) (hj : j < nn) => And.intro (HPO.out.c j (Kn.ors_at hj)) (And.intro (HPP.out.c (Kn.agk D n len j) (Kn.pvs_at (AGL.out j hj) (List.mem_map.2 ⟨_,Kn.mem_Tk hj,rfl⟩))) (And.intro (HPG.out _ (Kn.mem_Tk hj)) (AGL.out j hj))))
 go_upto_region 12 with fail
 refine at_worldQ (fun v => Below wA.heap.size wA v∧BK v wA.heap.size [.int .i64 (Kn.Pk D n len 0).1,.int .i64 (Kn.Pk D n len 0).2]) ⟨below_al (Below.refl _ _) _,BK.new _ _ _⟩ (fun V12 hS => ?_);obtain ⟨bb,BA⟩:=hS;(go_wp2_with fail)
 go_loopw [14] (fun i v => ∃ (j : Nat),j ≤ nn∧i = .int .i64 (j : Nat)∧Below wA.heap.size wA v∧BK v wA.heap.size [.int .i64 (Kn.Pk D n len j).1,.int .i64 (Kn.Pk D n len j).2]) (fun i _ => nn - (intOf i).toNat)
 case atStart => exact ⟨0,Nat.zero_le _,rfl,bb,BA⟩
 case round =>
  clear bb BA;obtain ⟨j,hjk,rfl,bb,BA⟩:=hrel;obtain ⟨w4,hw4⟩ : ∃ w4 : World,w4 = wr:=⟨_,rfl⟩;subst hw4
  by_cases hlt : j < nn
  ·have i1 : (j : Int) < (nn : Int):=by omega
   have ij0 : (0 : Int) ≤ (j : Int):=by omega
   obtain ⟨co0,cp0,cg,hag⟩:=CJ.out j hlt;have hsp:=Kn.spk_eq (D:=D) (n:=n) (len:=len) j;have hwl2:=WLN.out G ws HRW.out (Kn.agk D n len j) hag;have wps:=WPS.out G j;have shr:=SHR.out j hlt;rw [hsp] at cg
   dsimp only [Kn.spc] at cg
   obtain ⟨⟨wb,wo,hw1,hw2⟩,hw3⟩:=HWS.out;have hw1:=hw1 (by rw [HWL.out];omega)
   simp only [Option.some.injEq,Addr.mk.injEq] at hw1
   obtain ⟨rfl,rfl,-⟩:=hw1;have row:=hw2 (Kn.agk D n len j) (by rw [HWL.out];exact hag);obtain ⟨rb,ro,hr1,hr2⟩:=hw3 (Kn.agk D n len j) (by rw [HWL.out];exact hag)
   have hrl : (Pf.rat ws (Kn.agk D n len j)).l.length = nn:=by rw [hwl2];simp
   have hr1:=hr1 (by rw [hrl];omega);have hr2:=hr2 (Kn.agk D n len j) (by rw [hrl];exact hag)
   have hia : Pf.iat (Pf.rat ws (Kn.agk D n len j)).l (Kn.agk D n len j) = Pf.wp D ((List.range nn).map (Kn.pcR (Kn.Tk D n len nn) G)) (Kn.agk D n len j) (Kn.agk D n len j):=by
    rw [hwl2]
    unfold Pf.iat
    simp [hag]
   rw [hia] at hr2;rw [hr1,hrl] at row
   generalize Kn.agk D n len j = ag at *
   generalize (Pf.rat ws ag).cap = rc at row
   obtain ⟨⟨v1,v2⟩,hv⟩ : ∃ z,Pf.wp D ((List.range nn).map (Kn.pcR (Kn.Tk D n len nn) G)) ag ag = z:=⟨_,rfl⟩;rw [hv] at hr2 wps;obtain ⟨⟨h1,h2,h3⟩,hh⟩ : ∃ z,Ch.sh n (Ak.dAt D ag) = z:=⟨_,rfl⟩;rw [hh] at shr wps;dsimp only at hr2 shr wps;obtain ⟨⟨pa,pb⟩,hpk⟩ : ∃ z,Kn.Pk D n len j = z:=⟨_,rfl⟩;obtain ⟨⟨qa,qb⟩,hqk⟩ : ∃ z,Kn.Pk D n len (j + 1) = z:=⟨_,rfl⟩;rw [hpk,hqk] at cg;rw [hpk] at BA;dsimp only at cg BA;have HPK:=Lib.hid hqk;have SHJ:=Lib.hid shr;have WPJ:=Lib.hid wps;have lgo:=HPO.out.lt;have lpp:=HPP.out.lt;have lG:=cg.lt;have lg:=lt_of_cell row;have lrb:=lt_of_cell hr2.1;have lp3:=B3.lt;have lp9:=B9.lt
   (try dsimp only at lg lrb)
   clear hpk hqk hv hh shr wps hsp hwl2 hw2 hw3 hr1 hrl hia
   simp only [Nat.zero_add] at row
   have y0:=keepC bb co0;have y1:=keepC bb cp0;have g0:=keepC bb (cg.c 0 rfl);have g1:=keepC bb (cg.c 1 rfl);have g2:=keepC bb (cg.c 2 rfl);have g3:=keepC bb (cg.c 3 rfl);have r0:=keepC bb row;have x0:=keepC bb hr2.1;have x1:=keepC bb hr2.2;have d0:=keepC bb (B3.c 0 rfl);have c1:=keepC bb (B9.c 1 rfl);have a0:=BA.c 0 rfl;have a1:=BA.c 1 rfl
   have ia0 : (0 : Int) ≤ (ag : Int):=by omega
   have ia1 : (ag : Int) < (nn : Int):=by omega
   go_upto_region 15 with fail
   go_cut [165] (fun t v => t = .bool false∧Below w4.heap.size w4 v)
   case first =>
    refine wp_region_held_drew (S:=(Below w4.heap.size w4)) (by kernel_rfl) ((Below.refl _ _).drew) (fun hHeld => ?_);refine at_anyH (Below w4.heap.size w4) hHeld (fun we0 hNew => ?_);clear hHeld;have hHeld:=hNew;clear hNew
    have KCe:=fun (w : World) (hSw : (Below w4.heap.size w4) w) => And.intro (keepC hSw y0) (And.intro (keepC hSw y1) (And.intro (keepC hSw g0) (And.intro (keepC hSw g1) (And.intro (keepC hSw r0) (And.intro (keepC hSw d0) (And.intro (keepC hSw c1) (And.intro (keepC hSw a0) (keepC hSw a1))))))))
    refine tkd 0 ?_;refine tkd 1 ?_;refine tkd 2 ?_;(try simp only [PPz]);refine tkm 3 rfl hHeld (fun w hSw => by have kc:=KCe w hSw;go_simp <;> with_reducible rfl) ?_;(try simp only [PPz]);refine tkn 4 (.bool false) rfl ?_ hHeld ?_
    ·intro w hSw
     go_simp
     first | done | omega
    (try simp only [PPz]);refine tkd 5 ?_;refine tkd 6 ?_;refine tkd 7 ?_;refine tkd 8 ?_;(try simp only [PPz]);refine tkm 9 rfl hHeld (fun w hSw => by have kc:=KCe w hSw;go_simp <;> with_reducible rfl) ?_;(try simp only [PPz]);refine tkd 10 ?_;refine tkd 11 ?_;(try simp only [PPz]);refine tkn 12 (.bool false) rfl ?_ hHeld ?_
    ·intro w hSw
     go_simp
     first | done | omega
    (try simp only [PPz]);refine tkd 13 ?_;refine tkd 14 ?_;refine tkd 15 ?_;(try simp only [PPz]);refine tkm 16 rfl hHeld (fun w hSw => by have kc:=KCe w hSw;go_simp <;> with_reducible rfl) ?_;(try simp only [PPz]);refine tkd 17 ?_;refine tkd 18 ?_;refine tkd 19 ?_;(try simp only [PPz]);refine tkm 20 rfl hHeld (fun w hSw => by have kc:=KCe w hSw;go_simp <;> with_reducible rfl) ?_;(try simp only [PPz]);refine tkd 21 ?_;(try simp only [PPz]);refine tkm 22 rfl hHeld (fun w hSw => by have kc:=KCe w hSw;go_simp <;> with_reducible rfl) ?_;(try simp only [PPz]);refine tkd 23 ?_;refine tkd 24 ?_;refine tkd 25 ?_;(try simp only [PPz]);refine tkn 26 (.bool false) rfl ?_ hHeld ?_
    ·intro w hSw
     go_simp
     first | done | omega
    (try simp only [PPz]);refine tkd 27 ?_;refine tkd 28 ?_;refine tkd 29 ?_;(try simp only [PPz]);refine tkm 30 rfl hHeld (fun w hSw => by have kc:=KCe w hSw;go_simp <;> with_reducible rfl) ?_;(try simp only [PPz]);refine tkd 31 ?_;refine tkd 32 ?_;refine tkd 33 ?_;(try simp only [PPz]);refine tkm 34 rfl hHeld (fun w hSw => by have kc:=KCe w hSw;go_simp <;> with_reducible rfl) ?_;(try simp only [PPz]);refine tkd 35 ?_;(try simp only [PPz]);refine tkm 36 rfl hHeld (fun w hSw => by have kc:=KCe w hSw;go_simp <;> with_reducible rfl) ?_;(try simp only [PPz]);refine tkd 37 ?_;(try simp only [PPz]);refine tkn 38 (.bool false) rfl ?_ hHeld ?_
    ·intro w hSw
     go_simp
     first | done | omega
    (try simp only [PPz]);refine tkd 39 ?_;refine tkd 40 ?_;refine tkd 41 ?_;(try simp only [PPz]);refine tkm 42 rfl hHeld (fun w hSw => by have kc:=KCe w hSw;go_simp <;> with_reducible rfl) ?_;(try simp only [PPz]);refine tkd 43 ?_;refine tkd 44 ?_;refine tkd 45 ?_;(try simp only [PPz]);refine tkm 46 rfl hHeld (fun w hSw => by have kc:=KCe w hSw;go_simp <;> with_reducible rfl) ?_;(try simp only [PPz]);refine tkd 47 ?_;(try simp only [PPz]);refine tkm 48 rfl hHeld (fun w hSw => by have kc:=KCe w hSw;go_simp <;> with_reducible rfl) ?_;(try simp only [PPz]);refine tkd 49 ?_;refine tkd 50 ?_;(try simp only [PPz]);refine tkm 51 rfl hHeld (fun w hSw => by have kc:=KCe w hSw;go_simp <;> with_reducible rfl) ?_;(try simp only [PPz]);refine tkm 52 rfl hHeld (fun w hSw => by have kc:=KCe w hSw;go_simp <;> with_reducible rfl) ?_;(try simp only [PPz]);refine tkn 53 (.bool false) rfl ?_ hHeld ?_
    ·intro w hSw
     go_simp
     first | done | omega
    (try simp only [PPz]);refine tkd 54 ?_;(try simp only [PPz]);refine wpAnyH_done (by kernel_rfl) ?_ _;(go_wp2_with fail)
    go_meet
    exact ⟨rfl,hHeld⟩
   case rest =>
   obtain ⟨rfl,hHeld⟩:=hcut;replace bb:=keepB bb hHeld;replace BA:=BA.keep hHeld;clear hHeld a0 a1 y0 y1 g0 g1 g2 g3 r0 x0 x1 d0 c1;have y0:=keepC bb co0;have y1:=keepC bb cp0;have g0:=keepC bb (cg.c 0 rfl);have g1:=keepC bb (cg.c 1 rfl);have g2:=keepC bb (cg.c 2 rfl);have g3:=keepC bb (cg.c 3 rfl);have r0:=keepC bb row;have x0:=keepC bb hr2.1;have x1:=keepC bb hr2.2;have d0:=keepC bb (B3.c 0 rfl);have c1:=keepC bb (B9.c 1 rfl)
   go_upto_region 17 with fail
   go_cut [] (fun v => Below wA.heap.size wA v∧BK v wA.heap.size [.int .i64 qa,.int .i64 qb])
   case first =>
    refine wp_region_held_drew (S:=(GB (fun k => k = wA.heap.size) wc)) (by kernel_rfl) ((GB.refl _ _).drew) (fun hHeld => ?_);refine at_anyH (fun v => GB (fun k => k = wA.heap.size) wc v∧BK v (wA.heap.size) [.int .i64 pa,.int .i64 pb]) ⟨hHeld,BA.drew⟩ (fun ws0 hNew => ?_);clear hHeld BA;obtain ⟨hHeld,BA⟩:=hNew;refine tkd 0 ?_;(try simp only [PPz]);refine tkm 1 rfl hHeld (fun w hSw => by have ky0:=hSw.cell (fun h => absurd h (Nat.ne_of_lt lgo)) y0;have ky1:=hSw.cell (fun h => absurd h (Nat.ne_of_lt lpp)) y1;have kg2:=hSw.cell (fun h => absurd h (Nat.ne_of_lt lG)) g2;have kg3:=hSw.cell (fun h => absurd h (Nat.ne_of_lt lG)) g3;have kd0:=hSw.cell (fun h => absurd h (Nat.ne_of_lt lp3)) d0;go_simp <;> with_reducible rfl) ?_;(try simp only [PPz]);refine tkd 2 ?_;refine tkd 3 ?_;refine tkd 4 ?_;(try simp only [PPz]);refine tkm 5 rfl hHeld (fun w hSw => by have ky0:=hSw.cell (fun h => absurd h (Nat.ne_of_lt lgo)) y0;have ky1:=hSw.cell (fun h => absurd h (Nat.ne_of_lt lpp)) y1;have kg2:=hSw.cell (fun h => absurd h (Nat.ne_of_lt lG)) g2;have kg3:=hSw.cell (fun h => absurd h (Nat.ne_of_lt lG)) g3;have kd0:=hSw.cell (fun h => absurd h (Nat.ne_of_lt lp3)) d0;go_simp <;> with_reducible rfl) ?_;(try simp only [PPz]);refine tkd 6 ?_;(try simp only [PPz]);refine tkm 7 rfl hHeld (fun w hSw => by have ky0:=hSw.cell (fun h => absurd h (Nat.ne_of_lt lgo)) y0;have ky1:=hSw.cell (fun h => absurd h (Nat.ne_of_lt lpp)) y1;have kg2:=hSw.cell (fun h => absurd h (Nat.ne_of_lt lG)) g2;have kg3:=hSw.cell (fun h => absurd h (Nat.ne_of_lt lG)) g3;have kd0:=hSw.cell (fun h => absurd h (Nat.ne_of_lt lp3)) d0;go_simp <;> with_reducible rfl) ?_;(try simp only [PPz]);refine tkd 8 ?_;refine tkd 9 ?_;(try simp only [PPz]);refine tkm 10 rfl hHeld (fun w hSw => by have ky0:=hSw.cell (fun h => absurd h (Nat.ne_of_lt lgo)) y0;have ky1:=hSw.cell (fun h => absurd h (Nat.ne_of_lt lpp)) y1;have kg2:=hSw.cell (fun h => absurd h (Nat.ne_of_lt lG)) g2;have kg3:=hSw.cell (fun h => absurd h (Nat.ne_of_lt lG)) g3;have kd0:=hSw.cell (fun h => absurd h (Nat.ne_of_lt lp3)) d0;go_simp <;> with_reducible rfl) ?_;(try simp only [PPz]);refine rdy1 11 rfl (fun K hK => ?_);have n0:=BA.c 0 rfl;have f0:=BA.f 0 rfl;have n1:=BA.c 1 rfl;have f1:=BA.f 1 rfl;go_simp;clear n0 f0 n1 f1;refine hK.out _ _ ((hHeld.set (.inl rfl) _).set (.inl rfl) _) (fun hNew => ?_);replace hHeld:=hNew;clear hNew hK K;(try simp only [PPz]);refine at_anyH (fun v => GB (fun k => k = wA.heap.size) wc v∧BK v (wA.heap.size) [.int .i64 qa,.int .i64 qb]) ⟨hHeld,((BA.set 0 _).set 1 _)⟩ (fun ws12 hS => ?_);clear hHeld BA;obtain ⟨hHeld,BA⟩:=hS;refine wpAnyH_done (by kernel_rfl) ?_ _;(go_wp2_with fail)
    go_meet
    exact ⟨hHeld.toBelow bb (fun _ h => Nat.le_of_eq h.symm) bb.size,BA⟩
   case rest =>
   clear bb BA y0 y1 g0 g1 g2 g3 r0 x0 x1 d0 c1;obtain ⟨bb,BA⟩:=hcut
   go_upto_region 18 with fail
   refine at_worldQ (fun v => Below wA.heap.size wA v∧BK v wA.heap.size [.int .i64 qa,.int .i64 qb]) ⟨bb,BA⟩ (fun wD hS => ?_);clear bb BA;obtain ⟨bb,BA⟩:=hS
   by_cases hl : j + 1 < nn
   ·have l1 : (j : Int) + 1 < (nn : Int):=by omega
    have hw1 : IntKind.i64.wrap ((j : Int) + 1) = (j : Int) + 1:=IntWalk.i64_in _ (by omega);have hl2:=WPJ.out hl;rw [Prod.mk.injEq] at hl2;obtain ⟨e1,e2⟩:=hl2;subst e1 e2;have y0:=keepC bb co0;have y1:=keepC bb cp0;have g0:=keepC bb (cg.c 0 rfl);have g1:=keepC bb (cg.c 1 rfl);have g2:=keepC bb (cg.c 2 rfl);have g3:=keepC bb (cg.c 3 rfl);have r0:=keepC bb row;have x0:=keepC bb hr2.1;have x1:=keepC bb hr2.2;have d0:=keepC bb (B3.c 0 rfl);have c1:=keepC bb (B9.c 1 rfl);refine wp_region_noPanic ?_;refine wp_region_held_drew (S:=(Below wD.heap.size wD)) (by kernel_rfl) ((Below.refl _ _).drew) (fun hHeld => ?_);refine at_anyH (Below wD.heap.size wD) hHeld (fun wg0 hNew => ?_);clear hHeld;have hHeld:=hNew;clear hNew
    have KCg:=fun (w : World) (hSw : (Below wD.heap.size wD) w) => And.intro (keepC hSw y0) (And.intro (keepC hSw r0) (And.intro (keepC hSw x0) (And.intro (keepC hSw x1) (keepC hSw c1))))
    refine tkd 0 ?_;refine tkd 1 ?_;refine tkd 2 ?_;refine tkd 3 ?_;(try simp only [PPz]);refine tkn 4 (.bool true) rfl ?_ hHeld ?_
    ·intro w hSw
     go_simp
     first | done | omega
    (try simp only [PPz]);refine tkd 5 ?_;refine tkd 6 ?_;(try simp only [PPz]);refine tkm 7 rfl hHeld (fun w hSw => by have kc:=KCg w hSw;go_simp <;> with_reducible rfl) ?_;(try simp only [PPz]);refine tkd 8 ?_;refine tkd 9 ?_;refine tkd 10 ?_;(try simp only [PPz]);refine tkm 11 rfl hHeld (fun w hSw => by have kc:=KCg w hSw;go_simp <;> with_reducible rfl) ?_;(try simp only [PPz]);refine tkd 12 ?_;(try simp only [PPz]);refine tkm 13 rfl hHeld (fun w hSw => by have kc:=KCg w hSw;go_simp <;> with_reducible rfl) ?_;(try simp only [PPz]);refine tkd 14 ?_;refine tkd 15 ?_;refine tkd 16 ?_;(try simp only [PPz]);refine tkm 17 rfl hHeld (fun w hSw => by have kc:=KCg w hSw;go_simp <;> with_reducible rfl) ?_;(try simp only [PPz]);refine tkd 18 ?_;(try simp only [PPz]);refine tkm 19 rfl hHeld (fun w hSw => by have kc:=KCg w hSw;go_simp <;> with_reducible rfl) ?_;(try simp only [PPz]);refine tkd 20 ?_;refine tkd 21 ?_;refine tkd 22 ?_;refine tkd 23 ?_;refine tkd 24 ?_;(try simp only [PPz]);refine tkm 25 rfl hHeld (fun w hSw => by have kc:=KCg w hSw;go_simp <;> with_reducible rfl) ?_;(try simp only [PPz]);refine rdy1 26 rfl (fun K hK => ?_);go_simp;refine (SHJ.out _ (keepB hbb (keepB bb hHeld))).mono ?_;rintro e wg27 ⟨rfl,hb3⟩;(go_wp2_with fail);refine hK.out _ _ (keepB hHeld hb3) (fun hNew => ?_);replace hHeld:=hNew;clear hNew hK K hb3;(try simp only [PPz]);refine tkn 27 (.bool false) rfl ?_ hHeld ?_
    ·intro w hSw
     go_simp
     first | done | omega
    (try simp only [PPz]);refine tkd 28 ?_;(try simp only [PPz]);refine wpAnyH_done (by kernel_rfl) ?_ _;refine NoPanic.normal ?_
    skip
    clear y0 y1 g0 g1 g2 g3 r0 x0 x1 d0 c1;replace bb:=keepB bb hHeld;replace BA:=BA.keep hHeld;clear hHeld;(go_wp2_with fail)
    go_roundw
    case rel => exact ⟨j + 1,by omega,by go_num,bb,by rw [HPK.out];exact BA⟩
    case measure => (simp [intOf] <;> omega)
   ·have l1 : ¬ (j : Int) + 1 < (nn : Int):=by omega
    have hw1 : IntKind.i64.wrap ((j : Int) + 1) = (j : Int) + 1:=IntWalk.i64_in _ (by omega);refine wp_region_noPanic ?_;refine wp_region_held_drew (S:=(Below wD.heap.size wD)) (by kernel_rfl) ((Below.refl _ _).drew) (fun hHeld => ?_);refine at_anyH (Below wD.heap.size wD) hHeld (fun wh0 hNew => ?_);clear hHeld;have hHeld:=hNew;clear hNew;refine tkd 0 ?_;refine tkd 1 ?_;refine tkd 2 ?_;refine tkd 3 ?_;(try simp only [PPz]);refine tkn 4 (.bool false) rfl ?_ hHeld ?_
    ·intro w hSw
     go_simp
     first | done | omega
    (try simp only [PPz]);refine tkd 5 ?_;(try simp only [PPz]);refine tkns 6 rfl hHeld ?_;(try simp only [PPz]);refine tkns 7 rfl hHeld ?_;(try simp only [PPz]);refine tkns 8 rfl hHeld ?_;(try simp only [PPz]);refine tkns 9 rfl hHeld ?_;(try simp only [PPz]);refine tkns 10 rfl hHeld ?_;(try simp only [PPz]);refine tkns 11 rfl hHeld ?_;(try simp only [PPz]);refine tkns 12 rfl hHeld ?_;(try simp only [PPz]);refine tkns 13 rfl hHeld ?_;(try simp only [PPz]);refine tkns 14 rfl hHeld ?_;(try simp only [PPz]);refine tkns 15 rfl hHeld ?_;(try simp only [PPz]);refine tkns 16 rfl hHeld ?_;(try simp only [PPz]);refine tkns 17 rfl hHeld ?_;(try simp only [PPz]);refine tkns 18 rfl hHeld ?_;(try simp only [PPz]);refine tkns 19 rfl hHeld ?_;(try simp only [PPz]);refine tkns 20 rfl hHeld ?_;(try simp only [PPz]);refine tkns 21 rfl hHeld ?_;(try simp only [PPz]);refine tkns 22 rfl hHeld ?_;(try simp only [PPz]);refine tkns 23 rfl hHeld ?_;(try simp only [PPz]);refine tkns 24 rfl hHeld ?_;(try simp only [PPz]);refine tkns 25 rfl hHeld ?_;(try simp only [PPz]);refine tkns 26 rfl hHeld ?_;(try simp only [PPz]);refine tkns 27 rfl hHeld ?_;(try simp only [PPz]);refine tkd 28 ?_;(try simp only [PPz]);refine wpAnyH_done (by kernel_rfl) ?_ _;refine NoPanic.normal ?_
    skip
    replace bb:=keepB bb hHeld;replace BA:=BA.keep hHeld;clear hHeld;(go_wp2_with fail)
    go_roundw
    case rel => exact ⟨j + 1,by omega,by go_num,bb,by rw [HPK.out];exact BA⟩
    case measure => (simp [intOf] <;> omega)
  ·have i1 : ¬ (j : Int) < (nn : Int):=by omega
   (go_wp2_with fail);refine (alive11_any _).mono ?_;rintro e w9 ⟨rfl,hb9⟩;(go_wp2_with fail)
   go_ret
   exact ⟨rfl,keepB hbb (keepB bb hb9)⟩
end Go.Proofs.YtogmfebphiglaaaGreat


