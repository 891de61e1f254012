/- Package knife: Spans of valid cakes. -/
import Derived.Test.YtogmfebphiglaaaGreatM28
namespace Go.Proofs.YtogmfebphiglaaaGreat
open Go.RowKit
/-- What Spans gives. -/
def RunK (D : List CkD) (n len : Int) (nn : Nat) (w : World) (e : Ending) (w' : World) : Prop :=
 ∃ (Pp go co : Nat) (Q : Option Addr) (q cq : Nat) (G : Nat → Nat),e = .returned (.tuple #[.agg #[.slice (some ⟨Pp,0,none⟩) nn nn],.slice (some ⟨go,0,none⟩) nn co,.slice Q q cq,.int .i64 0])∧Below w.heap.size w w'∧(Kn.sts D n len nn).L.length = q∧IsQs w' Q (Kn.sts D n len nn).L ∧
  BK w' go ((Kn.ors D n len nn).map (Value.int .i64))∧BK w' Pp (Kn.pvs nn (Kn.Tk D n len nn) G (fun _ => Value.slice none 0 0))∧∀ t ∈ Kn.Tk D n len nn,BK w' (G t.1) (Kn.spc t)
set_option linter.unusedSimpArgs false in
set_option maxHeartbeats 8000000 in
set_option maxRecDepth 100000 in
theorem knspans_any (D : List CkD) (n len : Int) (nn : Nat) (A : Option Addr) (ca : Nat) (cs : List CkR) (w : World) (h : IsCs w A cs) (hD : cs.map Ak.dat = D) (hc : Ak.chkS D 0 = 0) (hnn : cs.length = nn) (hlen : (Ak.dAt D 0).1 = len) (hn : n = (D.length : Nat)) (hnw : ∀ k,k < nn → ∀ t ∈ Kn.Tk D n len k,t.1 ≠ Kn.agk D n len k) :
 Calls Tryz.prog 25 #[.slice A nn ca] w (RunK D n len nn w):=by
 obtain ⟨i0,hi0,hz0,hz1,hz2⟩:=info_parts intInfo;have HI:=Lib.hid hi0;have HI2:=Lib.hid hz0;have HI3:=Lib.hid hz1;have HI4:=Lib.hid hz2;clear hi0 hz0 hz1 hz2
 have op:=fun v (hv : Below w.heap.size w v) => askOpen_any A ca cs v (h.keep hv)
 rw [hD,hnn] at op
 unfold OpenQ at op
 have hgd:=Ak.chkS_good hc
 have hDl : D.length = nn:=by rw [← hD,List.length_map,hnn]
 have hn6 : nn ≤ 6:=by rw [← hDl];exact hgd.l1
 have hn1 : 1 ≤ nn:=by rw [← hDl];exact hgd.l0
 have hrng : (Kn.rng nn).map (Value.int .i64) = Hi.cells1 (List.range nn):=by
  unfold Kn.rng Hi.cells1
  rw [List.map_map]
  rfl
 have hnil : List.replicate nn (Value.slice none 0 0) = ((List.range nn).map (fun _ => Value.slice none 0 0)):=List.ext_getElem (by simp) (fun k h1 h2 => by simp);have SG:=Lib.hid (fun k (hk : k < nn) => Kn.sgood_sts hc hn hlen k (by omega));have ST:=Lib.hid (fun (s : Kn.St) A ca cs Q cq g m0 cap k (F : Nat → Prop) w h1 h2 h3 h4 h5 h6 h7 h8 h9 h10 => Kn.stopped_good D n len s A ca cs Q cq g m0 cap nn k F w h1 h2 h3 h4 hc hlen hn h5 h6 h7 h8 h9 h10);have OP:=Lib.hid op;have HC:=Lib.hid hc;have HDL:=Lib.hid hDl;have HNW:=Lib.hid hnw;clear op hc hDl hlen hgd hD h hnn hnw hn
 unfold RunK
 go_enter Tryz.func25,Tryz.ntmps25
 go_upto_region 1 with fail
 refine at_box1 (fun V hbb B0 hVs => ?_);(go_wp2_with fail);refine (OP.out _ hbb).mono ?_;rintro e w1 ⟨hb,⟨hne,_⟩ | ⟨_,A1,ca1,cs1,Q1,cq1,rfl,hd1,hfd⟩⟩
 ·exact absurd HC.out hne
 have hcl1 : cs1.length = nn:=by rw [← HDL.out,← hd1,List.length_map]
 rw [hcl1];have HD1:=Lib.hid hd1;have HCL1:=Lib.hid hcl1;clear hd1 hcl1 OP;have hv1:=hb.size;replace hbb:=keepB hbb hb;replace B0:=B0.keep hb;clear hb
 go_upto_region 4 with fail
 refine at_worldQ (fun v => Below w.heap.size w v∧BK v w.heap.size [.slice none 0 0]∧BK v w1.heap.size [.slice A1 nn ca1,.slice Q1 0 cq1]∧GB (fun _ => False) w1 v∧v.heap.size = w1.heap.size + 1) ⟨below_al hbb _,B0.al _,BK.new _ _ _,(GB.refl _ _).al _,by simp only [World.size_alloc]⟩ (fun V4 hS => ?_);clear hbb B0;obtain ⟨hbb,B0,B6,hG14,hs4⟩:=hS;have hmk:=knspan_make nn (by omega);have d0:=B0.lt;have c0':=(B0.al (.cells (Array.replicate nn (Value.slice none 0 0)) 45)).c 0 rfl;have f0':=(B0.al (.cells (Array.replicate nn (Value.slice none 0 0)) 45)).f 0 rfl
 go_upto_region 5 with fail
 refine at_worldQ (fun v => Below w.heap.size w v∧BK v w.heap.size [.slice (some ⟨w1.heap.size + 1,0,none⟩) nn nn]∧BK v w1.heap.size [.slice A1 nn ca1,.slice Q1 0 cq1]∧BK v (w1.heap.size + 1) ((List.range nn).map (fun _ => Value.slice none 0 0))∧GB (fun k => k = w.heap.size) w1 v∧v.heap.size = w1.heap.size + 2) ⟨below_set (below_al hbb _) (by omega) _,(B0.al _).set 0 _,(B6.al _).far (by omega) _ _,(by
  have b:=BK.new V4 (List.replicate nn (Value.slice none 0 0)) 45;rw [List.toArray_replicate,hs4] at b;rw [← hnil]
  exact b.far (by omega) _ _),((Kn.gb_weak hG14 (F':=fun k => k = w.heap.size) fun k h => h.elim).al _).set (.inl rfl) _,by simp [hs4]⟩ (fun V5 hS => ?_)
 clear hbb B0 B6 hG14 hs4 c0' f0' hmk d0;obtain ⟨hbb,hB0,BD,BP,hG,hs5⟩:=hS;rw [hVs] at hfd hv1;obtain ⟨bx,hbx⟩ : ∃ z,w1.heap.size = z:=⟨_,rfl⟩;obtain ⟨Pp,hPp⟩ : ∃ z,w1.heap.size + 1 = z:=⟨_,rfl⟩;rw [hPp] at hB0 BP;rw [hbx] at BD hs5 hPp hv1
 have hK : ∀ (F : Nat → Prop),(∀ k,F k → k < w.heap.size + 1 ∨ w1.heap.size ≤ k) → Kn.DkP F V5 A1 cs1 Q1 []:=fun F hF w' k => by
  have hm : Mid (w.heap.size + 1) w1 V5:=Kn.mid_gb (Mid.refl (w.heap.size + 1) w1) hG (fun j h1 h2 e => by omega);have hf:=hfd.mid (Kn.mid_gb hm k (fun j h1 h2 e => by have:=hF j e;omega));exact ⟨hf.isCs,hf.isQs⟩
 rw [hbx] at hK ⊢;have HK:=Lib.hid hK;have EV:=Lib.hid (fun v => knevery_any A1 nn ca1 Q1 0 cq1 v hn1 hn6);have d0:=BD.c 0 rfl;have d1:=BD.c 1 rfl;clear hK hfd hG hVs hbx
 go_cut [7,8] (fun x z v => ∃ (fx ge ce : Nat),x = .pointer (some ⟨fx,0,none⟩)∧z = .slice (some ⟨ge,0,none⟩) nn ce∧nn ≤ ce∧V5.heap.size ≤ fx∧V5.heap.size ≤ ge∧fx ≠ ge∧BK v fx [.int .i64 0,.int .i64 1]∧BK v ge (Hi.cells1 (List.range nn))∧GB (fun _ => False) V5 v)
 case first =>
  refine wp_region_held_drew (S:=(GB (fun _ => False) V5)) (by kernel_rfl) ((GB.refl _ _).drew) (fun hHeld => ?_);refine at_anyH (fun v => GB (fun _ => False) V5 v) hHeld (fun wu0 hNew => ?_);clear hHeld;have hHeld:=hNew;clear hNew;refine tkm 1 rfl hHeld (fun w hSw => by have kd0:=hSw.cell (fun h => h) d0;have kd1:=hSw.cell (fun h => h) d1;go_simp <;> with_reducible rfl) ?_;(try simp only [PPz]);refine rdy2 0 3 rfl rfl (fun K hK => ?_) (fun K hK => ?_)
  ·
   go_simp;refine (knwhole_any 0 _).mono ?_;rintro e wu2 ⟨rfl,hb3⟩;(go_wp2_with fail);refine hK.out _ _ (hHeld.below hb3) (fun hNew => ?_);replace hHeld:=hNew;clear hNew hK K hb3;(try simp only [PPz]);refine rdy2 2 3 rfl rfl (fun K hK => ?_) (fun K hK => ?_)
   ·
    go_simp;refine (EV.out _).mono ?_;rintro e wu3 ⟨ge,ce,rfl,hge,hce,hBe,hb3⟩;have hE:=Kn.BKf.mk (hrng ▸ hBe);have hgeV : V5.heap.size ≤ ge:=Nat.le_trans hHeld.size hge;clear hBe;(go_wp2_with fail);refine hK.out _ _ (hHeld.below hb3) (fun hNew => ?_);replace hHeld:=hNew;clear hNew hK K hb3;(try simp only [PPz]);refine rdy1 3 rfl (fun K hK => ?_);go_simp;refine hK.out _ _ (hHeld.al _) (fun hNew => ?_);have hf : V5.heap.size ≤ wu3.heap.size:=hHeld.size;replace hHeld:=hNew;clear hNew hK K;(try simp only [PPz]);have gfhE:=hE.size;refine at_anyH (fun v => GB (fun _ => False) V5 v∧BK v (wu3.heap.size) [.int .i64 0,.int .i64 0]∧Kn.BKf v ge (Hi.cells1 (List.range nn))) ⟨hHeld,BK.new _ _ _,hE.al _⟩ (fun wu4 hS => ?_);clear hHeld hE;obtain ⟨hHeld,Bf,hE⟩:=hS;refine rdy1 4 rfl (fun K hK => ?_);have n0:=Bf.c 0 rfl;have f0:=Bf.f 0 rfl;have n1:=Bf.c 1 rfl;have f1:=Bf.f 1 rfl;go_simp;clear n0 f0 n1 f1;refine hK.out _ _ ((hHeld.set (.inr hf) _).set (.inr hf) _) (fun hNew => ?_);replace hHeld:=hNew;clear hNew hK K;(try simp only [PPz]);refine at_anyH (fun v => GB (fun _ => False) V5 v∧BK v (wu3.heap.size) [.int .i64 0,.int .i64 1]∧Kn.BKf v ge (Hi.cells1 (List.range nn))) ⟨hHeld,((Bf.set 0 _).set 1 _),((hE.set (by omega) _).set (by omega) _)⟩ (fun wu5 hS => ?_);clear hHeld Bf hE;obtain ⟨hHeld,Bf,hE⟩:=hS;refine tkd 5 ?_;(try simp only [PPz]);refine wpAnyH_done (by kernel_rfl) ?_ _;(go_wp2_with fail)
    go_meet
    exact ⟨_,ge,ce,rfl,rfl,hce,hf,hgeV,by omega,Bf,hE.b,hHeld⟩
   ·
    go_simp;refine hK.out _ _ (hHeld.al _) (fun hNew => ?_);have hf : V5.heap.size ≤ wu2.heap.size:=hHeld.size;replace hHeld:=hNew;clear hNew hK K;(try simp only [PPz]);refine at_anyH (fun v => GB (fun _ => False) V5 v∧BK v (wu2.heap.size) [.int .i64 0,.int .i64 0]) ⟨hHeld,BK.new _ _ _⟩ (fun wu7 hS => ?_);clear hHeld;obtain ⟨hHeld,Bf⟩:=hS;refine rdy1 2 rfl (fun K hK => ?_);go_simp;refine (EV.out _).mono ?_;rintro e wu8 ⟨ge,ce,rfl,hge,hce,hBe,hb3⟩;have hE:=Kn.BKf.mk (hrng ▸ hBe);have hgeV : V5.heap.size ≤ ge:=Nat.le_trans hHeld.size hge;clear hBe;(go_wp2_with fail);refine hK.out _ _ (hHeld.below hb3) (fun hNew => ?_);have cf:=Bf.lt;replace Bf:=Bf.keep hb3;replace hHeld:=hNew;clear hNew hK K hb3;(try simp only [PPz]);refine rdy1 4 rfl (fun K hK => ?_);have n0:=Bf.c 0 rfl;have f0:=Bf.f 0 rfl;have n1:=Bf.c 1 rfl;have f1:=Bf.f 1 rfl;go_simp;clear n0 f0 n1 f1;refine hK.out _ _ ((hHeld.set (.inr hf) _).set (.inr hf) _) (fun hNew => ?_);replace hHeld:=hNew;clear hNew hK K;(try simp only [PPz]);refine at_anyH (fun v => GB (fun _ => False) V5 v∧BK v (wu2.heap.size) [.int .i64 0,.int .i64 1]∧Kn.BKf v ge (Hi.cells1 (List.range nn))) ⟨hHeld,((Bf.set 0 _).set 1 _),((hE.set (by omega) _).set (by omega) _)⟩ (fun wu9 hS => ?_);clear hHeld Bf hE;obtain ⟨hHeld,Bf,hE⟩:=hS;refine tkd 5 ?_;(try simp only [PPz]);refine wpAnyH_done (by kernel_rfl) ?_ _;(go_wp2_with fail)
    go_meet
    exact ⟨_,ge,ce,rfl,rfl,hce,hf,hgeV,by omega,Bf,hE.b,hHeld⟩
  ·
   go_simp;refine hK.out _ _ (hHeld.al _) (fun hNew => ?_);have hf : V5.heap.size ≤ wu0.heap.size:=hHeld.size;replace hHeld:=hNew;clear hNew hK K;(try simp only [PPz]);refine at_anyH (fun v => GB (fun _ => False) V5 v∧BK v (wu0.heap.size) [.int .i64 0,.int .i64 0]) ⟨hHeld,BK.new _ _ _⟩ (fun wu11 hS => ?_);clear hHeld;obtain ⟨hHeld,Bf⟩:=hS;refine rdy1 0 rfl (fun K hK => ?_);go_simp;refine (knwhole_any 0 _).mono ?_;rintro e wu12 ⟨rfl,hb3⟩;(go_wp2_with fail);refine hK.out _ _ (hHeld.below hb3) (fun hNew => ?_);replace Bf:=Bf.keep hb3;replace hHeld:=hNew;clear hNew hK K hb3;(try simp only [PPz]);refine rdy1 2 rfl (fun K hK => ?_);go_simp;refine (EV.out _).mono ?_;rintro e wu13 ⟨ge,ce,rfl,hge,hce,hBe,hb3⟩;have hE:=Kn.BKf.mk (hrng ▸ hBe);have hgeV : V5.heap.size ≤ ge:=Nat.le_trans hHeld.size hge;clear hBe;(go_wp2_with fail);refine hK.out _ _ (hHeld.below hb3) (fun hNew => ?_);have cf:=Bf.lt;replace Bf:=Bf.keep hb3;replace hHeld:=hNew;clear hNew hK K hb3;(try simp only [PPz]);refine rdy1 4 rfl (fun K hK => ?_);have n0:=Bf.c 0 rfl;have f0:=Bf.f 0 rfl;have n1:=Bf.c 1 rfl;have f1:=Bf.f 1 rfl;go_simp;clear n0 f0 n1 f1;refine hK.out _ _ ((hHeld.set (.inr hf) _).set (.inr hf) _) (fun hNew => ?_);replace hHeld:=hNew;clear hNew hK K;(try simp only [PPz]);refine at_anyH (fun v => GB (fun _ => False) V5 v∧BK v (wu0.heap.size) [.int .i64 0,.int .i64 1]∧Kn.BKf v ge (Hi.cells1 (List.range nn))) ⟨hHeld,((Bf.set 0 _).set 1 _),((hE.set (by omega) _).set (by omega) _)⟩ (fun wu14 hS => ?_);clear hHeld Bf hE;obtain ⟨hHeld,Bf,hE⟩:=hS;refine tkd 5 ?_;(try simp only [PPz]);refine wpAnyH_done (by kernel_rfl) ?_ _;(go_wp2_with fail)
   go_meet
   exact ⟨_,ge,ce,rfl,rfl,hce,hf,hgeV,by omega,Bf,hE.b,hHeld⟩
 case rest =>
  obtain ⟨fx,ge,ce,rfl,rfl,hce,hfx,hge,hne,BF,BL,hg5⟩:=hcut;clear d0 d1 EV hrng hnil;obtain ⟨no,hno⟩ : ∃ z,wc.heap.size = z:=⟨_,rfl⟩;have hf1:=BF.lt;have hl1:=BL.lt;have hs6:=hg5.size;have PL : Kn.Plc w bx fx Pp ge no:=⟨by omega,by omega,by omega,by omega,hne,by omega,by omega⟩
  have I0 : Kn.SpI D n len w nn bx fx Pp ge no 0 (.slice none 0 0) (.slice (some ⟨ge,0,none⟩) nn ce) A1 ca1 cs1 Q1 0 cq1 ce (fun _ => 0) wc:=⟨hg5.toBelow hbb (fun k hk => hk.elim) (by omega),hB0.gb hg5 (fun h => h),BD.gb hg5 (fun h => h),BF,by have e:=HDL.out;show BK wc ge (Hi.cells1 (List.range D.length));rw [e];exact BL,BP.gb hg5 (fun h => h),(fun t ht => by cases ht),Own.nil_ _ _,(HK.out (Kn.SF w.heap.size bx fx Pp ge (.slice none 0 0)) (fun k hk => by
   rcases hk with (hk | hk | hk | hk | hk) | hk
   ·omega
   ·omega
   ·omega
   ·omega
   ·omega
   ·cases hk)).keep (Kn.gb_weak hg5 fun _ h => h.elim),HCL1.out,rfl,HD1.out,rfl,hce,by omega⟩
  have hb5:=I0.bb.size;clear BF BL hg5 hB0 BD BP hbb hf1 hl1 hs6 HK HD1 HCL1 hs5 hPp hfx hge hne hno hce hv1;(go_wp2_with fail)
  go_loopw [3,8] (fun s3 s8 W => ∃ (k : Nat) (A : Option Addr) (ca : Nat) (cs : List CkR) (Q : Option Addr) (q cq cap : Nat) (G : Nat → Nat),k ≤ nn∧Kn.SpI D n len w nn bx fx Pp ge no k s3 s8 A ca cs Q q cq cap G W) (fun _ s8 _ => match s8 with | .slice _ m _ => m | _ => 0)
  case atStart => exact ⟨0,_,_,_,_,_,_,_,_,Nat.zero_le _,I0⟩
  case round =>
   clear I0;obtain ⟨k,A,ca,cs,Q,q,cq,cap,G,hk,SI⟩:=hrel
   by_cases hkn : k < nn
   ·skip
    have hsg:=SG.out k hkn;have e8:=SI.e8;have hcp:=SI.cp;obtain ⟨m,hm⟩ : ∃ z,nn - k = z:=⟨_,rfl⟩;rw [hm] at e8 hcp;subst e8
    have i1 : (0 : Int) < (m : Int):=by omega
    have hll : (Kn.sts D n len k).l.length = m:=by have:=hsg.2.1;have:=HDL.out;omega
    have CC:=Lib.hid (ST.out (Kn.sts D n len k) A ca cs Q cq ge m cap q (Kn.SF w.heap.size bx fx Pp ge u3) wr SI.dk SI.cl SI.ql SI.cd SI.bl hll (by omega) (by omega) hsg.1 SI.fl);have d0:=SI.bd.c 0 rfl;have d1:=SI.bd.c 1 rfl;have f0:=SI.bf.c 0 rfl;have f1:=SI.bf.c 1 rfl;have HSI:=Lib.hid SI;have HSG:=Lib.hid hsg;have HLL:=Lib.hid hll;clear SI hsg hll;(go_wp2_with fail);refine CC.out.mono ?_
    unfold Kn.StQ
    rintro e W1 ⟨A2,ca2,Q2,n2,cq2,l2,rfl,hb1,h2m,h2n,h2d,hk2⟩;clear CC d0 d1 f0 f1;have HB1:=Lib.hid hb1;have HK2:=Lib.hid hk2;have H2M:=Lib.hid h2m;have H2N:=Lib.hid h2n;have H2D:=Lib.hid h2d;clear hb1 hk2 h2m h2n h2d;have bbk:=HSI.out.bb.size;obtain ⟨fi,hfi⟩ : ∃ z,(Kn.stp D n len (Kn.sts D n len k)).1 = z:=⟨_,rfl⟩;obtain ⟨sx,hsx⟩ : ∃ z,(Kn.stp D n len (Kn.sts D n len k)).2.1 = z:=⟨_,rfl⟩;obtain ⟨sy,hsy⟩ : ∃ z,(Kn.stp D n len (Kn.sts D n len k)).2.2 = z:=⟨_,rfl⟩;obtain ⟨sa,hsa⟩ : ∃ z,(Kn.sts D n len k).a = z:=⟨_,rfl⟩;obtain ⟨sb,hsb⟩ : ∃ z,(Kn.sts D n len k).b = z:=⟨_,rfl⟩
    have hfl : fi < nn:=by have:=HSG.out.1.lt _ HSG.out.2.2;have:=HDL.out;omega
    rw [hfi,hsx,hsy];obtain ⟨p1,p2,p3,p4,p5,p6,p7⟩:=PL;have X0:=HSI.out.b0.keep HB1.out;have XF:=HSI.out.bf.keep HB1.out;rw [hsa,hsb] at XF;have XP:=HSI.out.bp.keep HB1.out;have XL:=HSI.out.bl.keep HB1.out;have XD:=HSI.out.bd.keep HB1.out;have HFI:=Lib.hid hfi;have HSX:=Lib.hid hsx;have HSY:=Lib.hid hsy;have HSA:=Lib.hid hsa;have HSB:=Lib.hid hsb;have hw1:=HB1.out.size;have lz1:=HSI.out.bp.lt;have lz5:=HSI.out.nw;have lz2:=HSI.out.bl.lt;have lz3:=HSI.out.bf.lt;have lz4:=HSI.out.bd.lt;clear hfi hsx hsy hsa hsb
    go_upto_region 8 with fail
    refine at_worldQ (fun v => BK v W1.heap.size [.slice A2 nn ca2,.slice Q2 n2 cq2]∧BK v (W1.heap.size + 1) [.int .i64 (fi : Nat)]∧BK v (W1.heap.size + 1 + 1) [.int .i64 sx,.int .i64 sy]∧BK v w.heap.size [.slice (some ⟨Pp,0,none⟩) nn nn]∧BK v fx [.int .i64 sa,.int .i64 sb]∧BK v Pp (Kn.pvs nn (Kn.Tk D n len k) G (fun _ => Value.slice none 0 0))∧BK v ge (Hi.cells1 (Kn.sts D n len k).l)∧BK v bx [.slice A nn ca,.slice Q q cq]∧GB (fun _ => False) W1 v∧v.heap.size = W1.heap.size + 3) ⟨((BK.new W1 [.slice A2 nn ca2,.slice Q2 n2 cq2] 29).al _).al _,(by have b:=(BK.new (W1.alloc (.cells #[.slice A2 nn ca2,.slice Q2 n2 cq2] 29)) [.int .i64 (fi : Nat)] 3).al (.cells #[.int .i64 sx,.int .i64 sy] 31);simpa only [World.size_alloc] using b),(by have b:=BK.new ((W1.alloc (.cells #[.slice A2 nn ca2,.slice Q2 n2 cq2] 29)).alloc (.cells #[.int .i64 (fi : Nat)] 3)) [.int .i64 sx,.int .i64 sy] 31;simpa only [World.size_alloc] using b),((X0.al _).al _).al _,((XF.al _).al _).al _,((XP.al _).al _).al _,((XL.al _).al _).al _,((XD.al _).al _).al _,(((GB.refl _ _).al _).al _).al _,by simp only [World.size_alloc]⟩ (fun V8 hS => ?_);clear X0 XF XP XL XD;obtain ⟨Z0,Z1,Z2,X0,XF,XP,XL,XD,hG8,hs8⟩:=hS;obtain ⟨vo,hvo⟩ : ∃ z,(Kn.pvs nn (Kn.Tk D n len k) G (fun _ => Value.slice none 0 0))[fi]? = some z:=⟨_,List.getElem?_eq_getElem (by unfold Kn.pvs;simp;exact hfl)⟩
    have j1 : (0 : Int) ≤ (fi : Int):=by omega
    have j2 : (fi : Int) < (nn : Int):=by omega
    have c0:=X0.c 0 rfl;have z1:=Z1.c 0 rfl;have z2:=Z2.c 0 rfl;have z3:=Z2.c 1 rfl;have f0:=XF.c 0 rfl;have f1:=XF.c 1 rfl;have q0:=(XP.al (.cells #[.int .i64 sa,.int .i64 sb,.int .i64 sx,.int .i64 sy] 70)).c fi hvo;have q1:=(XP.al (.cells #[.int .i64 sa,.int .i64 sb,.int .i64 sx,.int .i64 sy] 70)).f fi hvo
    go_upto_region 9 with fail
    refine at_worldQ (fun v => BK v (W1.heap.size + 3) [.int .i64 sa,.int .i64 sb,.int .i64 sx,.int .i64 sy]∧BK v W1.heap.size [.slice A2 nn ca2,.slice Q2 n2 cq2]∧BK v (W1.heap.size + 1) [.int .i64 (fi : Nat)]∧BK v (W1.heap.size + 1 + 1) [.int .i64 sx,.int .i64 sy]∧BK v w.heap.size [.slice (some ⟨Pp,0,none⟩) nn nn]∧BK v fx [.int .i64 sa,.int .i64 sb]∧BK v Pp ((Kn.pvs nn (Kn.Tk D n len k) G (fun _ => Value.slice none 0 0)).set fi (.slice (some ⟨(W1.heap.size + 3),0,none⟩) 1 1))∧BK v ge (Hi.cells1 (Kn.sts D n len k).l)∧BK v bx [.slice A nn ca,.slice Q q cq]∧GB (fun j => j = Pp) W1 v∧v.heap.size = (W1.heap.size + 3) + 1) ⟨(by have b:=BK.new V8 [.int .i64 sa,.int .i64 sb,.int .i64 sx,.int .i64 sy] 70;rw [hs8] at b;exact b.far (by omega) _ _),(Z0.al _).far (by omega) _ _,(Z1.al _).far (by omega) _ _,(Z2.al _).far (by omega) _ _,(X0.al _).far (by omega) _ _,(XF.al _).far (by omega) _ _,(XP.al _).set fi _,(XL.al _).far (by omega) _ _,(XD.al _).far (by omega) _ _,((Kn.gb_weak hG8 (F':=fun j => j = Pp) (fun _ h => h.elim)).al _).set (.inl rfl) _,by simp [hs8]⟩ (fun V9 hS => ?_);clear Z0 Z1 Z2 X0 XF XP XL XD hG8 c0 z1 z2 z3 f0 f1 q0 q1 hvo;obtain ⟨ZG,Z0,Z1,Z2,X0,XF,XP,XL,XD,hG9,hs9⟩:=hS;obtain ⟨gz,hgz⟩ : ∃ z,(W1.heap.size + 3) = z:=⟨_,rfl⟩;rw [hgz] at ZG XP hs9 hs8;have hmid : Mid no wr V9:=Kn.mid_gb ((Mid.refl no wr).call HB1.out) hG9 (fun j h1 h2 e => by omega);have hO:=row_mid HSI.out.or hmid;obtain ⟨T,hT⟩ : ∃ T,Kn.ors D n len k = T:=⟨_,rfl⟩
    have hnT : T.length = k:=by rw [← hT];exact Kn.ors_len D n len k
    rw [hT] at hO;have HT:=Lib.hid hT;obtain ⟨nE,hE'⟩ : ∃ z,T.length = z:=⟨_,rfl⟩;have HE:=Lib.hid hE'
    have hk6 : nE ≤ 6:=by omega
    have hEk : nE = k:=by omega
    rw [hE'] at hO
    have hrl:=fun j e => World.ownsRow.lt hO j e
    have z1:=Z1.c 0 rfl
    have hno9 : no ≤ V9.heap.size:=by omega
    have HS9:=Lib.hid hs9;clear hT hnT hE' hmid hs9;have DEL:=Lib.hid (fun v (hB : BK v ge (Hi.cells1 (Kn.sts D n len k).l)) (hc : v.cell? ⟨W1.heap.size + 1,0,none⟩ = some (.int .i64 (fi : Nat))) => Kn.del_nat ge cap m (Kn.sts D n len k).l fi (W1.heap.size + 1) v hB HLL.out HSG.out.1.nd (by have:=HSG.out.2.2;rw [HFI.out] at this;exact this) (by omega) (by omega) (by omega) hc)
    have hrw:=fun j e => HSI.out.or.lt j e
    go_wp2_with (at_builtin;go_loud (refine wpList_append_lies _ rfl _ _ _ rfl no 3 i0 _ 1 8 Tryz.underlying22 HI.out HI2.out HI3.out HI4.out rfl (by omega) _ nE (T.map (Value.int .i64)) (by rfl) (World.ownsRow.alloc hO _) ⟨V9.heap.size,0,none⟩ 1 1 [.int .i64 (fi : Int)] (by rfl) (by rfl) (World.news_of_block (cs:=#[.int .i64 (fi : Int)]) (t:=3) (fr:=(0,0)) (heap_alloc_new V9 _)) (by simp [Value.oneCell']) (by omega) (by unfold maxLen;omega) (by omega) (by simp;omega) (V9.heap.size + 1) (by simp) ?_);intro g co W10 hown hgrow hat hglt)
    have gr : ∀ {p : Nat} {l : List Value},BK V9 p l → (p < no ∨ W1.heap.size ≤ p) → BK W10 p l:=fun h hp => (h.al _).grown hgrow (fun e => by have:=hrw _ e;omega)
    replace ZG:=gr ZG (by omega);replace Z0:=gr Z0 (by omega);replace Z1:=gr Z1 (by omega);replace Z2:=gr Z2 (by omega);replace X0:=gr X0 (by omega);replace XF:=gr XF (by omega);replace XP:=gr XP (by omega);replace XL:=gr XL (by omega);replace XD:=gr XD (by omega);have hG10 : GB (Kn.SF w.heap.size bx fx Pp ge u3) W1 W10:=Kn.gb_grown ((Kn.gb_weak hG9 (fun j hj => .inl (.inr (.inr (.inr (.inl hj)))))).al _) hgrow (fun j e => .inr e);have hga : u3.ownBlock = some g ∨ gz < g:=hat.imp id (fun h => by have:=HS9.out;omega);have hlg:=hG10.size;clear gr hG9 hgrow hat z1 hO hrl hno9;refine (DEL.out _ XL (Z1.c 0 rfl)).mono ?_;rintro e W11 ⟨rfl,hgd,XL⟩;replace ZG:=ZG.gb hgd (by omega);replace Z0:=Z0.gb hgd (by omega);replace Z2:=Z2.gb hgd (by omega);replace X0:=X0.gb hgd (by omega);replace XF:=XF.gb hgd (by omega);replace XP:=XP.gb hgd (by omega);replace XD:=XD.gb hgd (by omega);have hown2:=row_mid hown (Kn.mid_gb (Mid.refl no W10) hgd (fun j h1 h2 e => by omega));have hG11 : GB (Kn.SF w.heap.size bx fx Pp ge u3) W1 W11:=Kn.gb_comp hG10 (Kn.gb_weak hgd (fun j hj => .inl (.inr (.inr (.inr (.inr hj))))));clear DEL hgd hG10 hown Z1;have z0:=Z0.c 0 rfl;have z1:=Z0.c 1 rfl;have y0:=Z2.c 0 rfl;have y1:=Z2.c 1 rfl
    go_upto_region 11 with fail
    have BD:=XD;have BF:=XF;clear XD XF;refine wp_region_noPanic ?_;refine wp_region_held_drew (S:=(GB (fun j => j = bx ∨ j = fx) W11)) (by kernel_rfl) ((GB.refl _ _).drew) (fun hHeld => ?_);refine at_anyH (fun v => GB (fun j => j = bx ∨ j = fx) W11 v∧BK v (bx) [.slice A nn ca,.slice Q q cq]∧BK v (fx) [.int .i64 sa,.int .i64 sb]) ⟨hHeld,BD.drew,BF.drew⟩ (fun wv0 hNew => ?_);clear hHeld BD BF;obtain ⟨hHeld,BD,BF⟩:=hNew;refine tkm 0 rfl hHeld (fun w hSw => by have kz0:=hSw.cell (by omega) z0;have kz1:=hSw.cell (by omega) z1;have ky0:=hSw.cell (by omega) y0;have ky1:=hSw.cell (by omega) y1;go_simp <;> with_reducible rfl) ?_;(try simp only [PPz]);refine tkm 1 rfl hHeld (fun w hSw => by have kz0:=hSw.cell (by omega) z0;have kz1:=hSw.cell (by omega) z1;have ky0:=hSw.cell (by omega) y0;have ky1:=hSw.cell (by omega) y1;go_simp <;> with_reducible rfl) ?_;(try simp only [PPz]);refine rdy1 2 rfl (fun K hK => ?_);have n0:=BD.c 0 rfl;have f0:=BD.f 0 rfl;have n1:=BD.c 1 rfl;have f1:=BD.f 1 rfl;go_simp;clear n0 f0 n1 f1;refine hK.out _ _ ((hHeld.set (.inl (.inl rfl)) _).set (.inl (.inl rfl)) _) (fun hNew => ?_);replace hHeld:=hNew;clear hNew hK K;(try simp only [PPz]);refine at_anyH (fun v => GB (fun j => j = bx ∨ j = fx) W11 v∧BK v (bx) [.slice A2 nn ca2,.slice Q2 n2 cq2]∧BK v (fx) [.int .i64 sa,.int .i64 sb]) ⟨hHeld,((BD.set 0 _).set 1 _),((BF.far (by omega) _ _).far (by omega) _ _)⟩ (fun wv3 hS => ?_);clear hHeld BD BF;obtain ⟨hHeld,BD,BF⟩:=hS;refine rdy1 3 rfl (fun K hK => ?_);have n0:=BF.c 0 rfl;have f0:=BF.f 0 rfl;have n1:=BF.c 1 rfl;have f1:=BF.f 1 rfl;go_simp;clear n0 f0 n1 f1;refine hK.out _ _ ((hHeld.set (.inl (.inr rfl)) _).set (.inl (.inr rfl)) _) (fun hNew => ?_);replace hHeld:=hNew;clear hNew hK K;(try simp only [PPz]);refine at_anyH (fun v => GB (fun j => j = bx ∨ j = fx) W11 v∧BK v (bx) [.slice A2 nn ca2,.slice Q2 n2 cq2]∧BK v (fx) [.int .i64 sx,.int .i64 sy]) ⟨hHeld,((BD.far (by omega) _ _).far (by omega) _ _),((BF.set 0 _).set 1 _)⟩ (fun wv4 hS => ?_);clear hHeld BD BF;obtain ⟨hHeld,BD,BF⟩:=hS;refine wpAnyH_done (by kernel_rfl) ?_ _;refine NoPanic.normal ?_;have hG12:=Kn.gb_comp hG11 (Kn.gb_weak hHeld (F':=Kn.SF w.heap.size bx fx Pp ge u3) (fun j hj => hj.elim (fun h => .inl (.inr (.inl h))) (fun h => .inl (.inr (.inr (.inl h))))));have hs12:=hHeld.size;replace ZG:=ZG.gb hHeld (by omega);replace X0:=X0.gb hHeld (by omega);replace XP:=XP.gb hHeld (by omega);replace XL:=XL.gb hHeld (by omega);have hown3:=row_mid hown2 (Kn.mid_gb (Mid.refl no W11) hHeld (fun j h1 h2 e => by omega));(go_wp2_with fail)
    go_roundw
    case rel =>
     obtain rfl:=HFI.out;obtain rfl:=HSX.out;obtain rfl:=HSY.out;obtain rfl:=HSA.out;obtain rfl:=HSB.out;rw [hEk] at hown3;refine ⟨k + 1,A2,ca2,l2,Q2,n2,cq2,cap,_,by omega,HSI.out.step ⟨p1,p2,p3,p4,p5,p6,p7⟩ HB1.out HK2.out hG12 (gz:=gz) (by omega) (fun j e => ?_) X0 BD BF XL XP ZG ?_ (HNW.out k hkn) H2M.out H2N.out H2D.out (by rw [show nn - (k + 1) = m - 1 by omega]) (by omega)⟩
     ·have e : g = j:=by simpa [Value.ownBlock] using e
      subst e;exact hga
     ·unfold Own
      rw [List.length_append,List.map_append,HT.out,HE.out,hEk];exact hown3
    case measure =>
     show m - 1 < m
     omega
   ·obtain rfl : k = nn:=by omega
    have SI2:=SI;obtain ⟨bb,b0,bd,-,-,-,-,ho,-,-,ql,-,e8,cp,-⟩:=SI;subst e8
    unfold Own at ho
    rw [Kn.ors_len] at ho;obtain ⟨go,co,rfl,hgo,hco,BO⟩:=knbk_rown ho hn1;have FK:=SI2.fin PL hgo BO;have HQL:=Lib.hid ql;have hp1:=PL.p1;clear SI2 ho BO ql hgo hco cp;rw [Nat.sub_self]
    go_upto_region 12 with fail
    refine at_worldQ (fun v => Below w.heap.size w v∧BK v w.heap.size [.slice (some ⟨Pp,0,none⟩) k k]∧BK v bx [.slice A k ca,.slice Q q cq]∧Kn.FinK D n len k w.heap.size Pp go G Q v) ⟨bb,b0,bd,FK⟩ (fun W8 hS => ?_);clear bb b0 bd FK;obtain ⟨hbb2,B0,BD,hFK⟩:=hS;have r0:=B0.c 0 rfl;have q1:=BD.c 1 rfl;have hl0:=B0.lt;refine wp_region_noPanic ?_;refine region_ordU (S:=(GB (fun _ => False) W8)) (GB (fun k => k = w.heap.size) W8) 4 (by kernel_rfl) ((GB.refl _ _).drew) (fun hHeld => ?_);refine at_ordU (fun v => GB (fun _ => False) W8 v) hHeld (fun wx0 hNew => ?_);clear hHeld;have hHeld:=hNew;clear hNew;refine ordU_take (i:=0) (o:=_) (v:=?vx1) rfl (by kernel_rfl) (by kernel_rfl) (by kernel_rfl) (by kernel_rfl) (fun _ _ _ h => h) (Or.inl ⟨by kernel_rfl,?hyx1⟩) hHeld ?restx1
    case hyx1 => (intro w hSw;have kr0:=hSw.cell (fun h => h) r0;have kq1:=hSw.cell (fun h => h) q1;go_simp <;> with_reducible rfl)
    (try simp only [PPz]);refine ordU_take2 (i:=1) (o:=_) (v:=?vx2) rfl (by kernel_rfl) (by kernel_rfl) (by kernel_rfl) (by decide) (fun  _ _ _ h => h) (Or.inl ⟨by kernel_rfl,?hyx2⟩) (Or.inl ⟨by kernel_rfl,?hzx2⟩) hHeld ?restx2
    case hyx2 => (intro w hSw;go_simp <;> with_reducible rfl)
    case hzx2 => (intro w hSw;go_simp <;> with_reducible rfl)
    (try simp only [PPz]);refine ordU_take2 (i:=2) (o:=_) (v:=?vx3) rfl (by kernel_rfl) (by kernel_rfl) (by kernel_rfl) (by decide) (fun  _ _ _ h => h) (Or.inl ⟨by kernel_rfl,?hyx3⟩) (Or.inl ⟨by kernel_rfl,?hzx3⟩) hHeld ?restx3
    case hyx3 => (intro w hSw;go_simp <;> with_reducible rfl)
    case hzx3 => (intro w hSw;go_simp <;> with_reducible rfl)
    (try simp only [PPz]);refine ordU_take2 (i:=3) (o:=_) (v:=?vx4) rfl (by kernel_rfl) (by kernel_rfl) (by kernel_rfl) (by decide) (fun  _ _ _ h => h) (Or.inl ⟨by kernel_rfl,?hyx4⟩) (Or.inl ⟨by kernel_rfl,?hzx4⟩) hHeld ?restx4
    case hyx4 => (intro w hSw;have kr0:=hSw.cell (fun h => h) r0;have kq1:=hSw.cell (fun h => h) q1;go_simp <;> with_reducible rfl)
    case hzx4 => (intro w hSw;have kq1:=hSw.cell (by omega) q1;go_simp <;> with_reducible rfl)
    (try simp only [PPz]);refine ordU_at (by kernel_rfl) ?_;replace B0:=B0.gb hHeld (fun h => h);replace hHeld : GB (fun k => k = w.heap.size) W8 wx0:=Kn.gb_weak hHeld (fun k hk => False.elim hk);refine rdy1 4 rfl (fun K hK => ?_);have n0:=B0.c 0 rfl;have f0:=B0.f 0 rfl;go_simp;clear n0 f0;refine hK.out _ _ (hHeld.set (.inl rfl) _) (fun hNew => ?_);replace hHeld:=hNew;clear hNew hK K;(try simp only [PPz]);refine at_anyH (fun v => GB (fun k => k = w.heap.size) W8 v∧BK v (w.heap.size) [.slice (some ⟨Pp,0,none⟩) k k]) ⟨hHeld,(B0.set 0 _)⟩ (fun wx5 hS => ?_);clear hHeld B0;obtain ⟨hHeld,B0⟩:=hS;refine tkd 5 ?_;refine tkd 6 ?_;refine tkd 7 ?_;(try simp only [PPz]);refine wpAnyH_done (by kernel_rfl) ?_ _;refine NoPanic.normal ?_;have hF2:=hFK.gb hHeld;have hbb3:=hHeld.toBelow hbb2 (fun k hk => by omega) (by omega);have z0:=B0.c 0 rfl;(go_wp2_with fail);exact bodyPost_ret (v:=.tuple #[.agg #[.slice (some ⟨Pp,0,none⟩) k k],.slice (some ⟨go,0,none⟩) k co,.slice Q q cq,.int .i64 0]) (by simp [results,Tryz.results25,go_sem,z0]) rfl ⟨Pp,go,co,Q,q,cq,G,rfl,hbb3,HQL.out,hF2.qs _ (GB.refl _ _),hF2.bo,hF2.bp,fun t ht => (hF2.sp t ht).2⟩
end Go.Proofs.YtogmfebphiglaaaGreat


