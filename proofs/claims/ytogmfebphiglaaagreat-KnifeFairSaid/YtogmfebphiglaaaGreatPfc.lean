/- Package proof: what reports a counterexample. -/
import Derived.Test.YtogmfebphiglaaaGreatPfa
set_option linter.unusedSimpArgs false
set_option maxHeartbeats 8000000
set_option maxRecDepth 100000
namespace Go.Proofs.YtogmfebphiglaaaGreat
open Go.RowKit
namespace Pf
theorem psd_at {ps : List PcR} {k : Nat} (h : k < ps.length) : (ps.map PcR.L).getD k [] = (pat ps k).L:=by
 unfold pat
 simp [h]
theorem wat_at {ws : List RwR} {i j : Nat} (h : i < ws.length) : wat (ws.map RwR.l) i j = iat (rat ws i).l j:=by
 unfold wat rat
 simp [h]
end Pf
/-- A survey in memory: cakes, pieces, the table, the parts. -/
structure SvI (w : World) (A Pp Ww Rr : Option Addr) (cs : List CkR) (ps : List Pf.PcR) (ws : List Pf.RwR) (rs : List (Int × Int)) : Prop where
 cs : IsCs w A cs
 ps : IsPs w Pp ps
 ws : IsWs w Ww ws
 rs : IsRw w Rr rs
theorem SvI.keep {w v : World} {A Pp Ww Rr : Option Addr} {cs : List CkR} {ps : List Pf.PcR} {ws : List Pf.RwR} {rs : List (Int × Int)} (h : SvI w A Pp Ww Rr cs ps ws rs) (hb : Below w.heap.size w v) : SvI v A Pp Ww Rr cs ps ws rs :=
 ⟨h.cs.keep hb,h.ps.keep hb,h.ws.keep hb,h.rs.keep hb⟩
/-- What is known of a survey's numbers. -/
structure SvG (cs : List CkR) (ps : List Pf.PcR) (ws : List Pf.RwR) (rs : List (Int × Int)) : Prop where
 ck : Ak.chkS (cs.map Ak.dat) 0 = 0
 pl : ps.length = cs.length
 wl : ws.length = cs.length
 rl : ∀ k,k < ws.length → (Pf.rat ws k).l.length = cs.length
 ok : ∀ i j,i < cs.length → j < cs.length → Rp.Ok (Pf.iat (Pf.rat ws i).l j).1 (Pf.iat (Pf.rat ws i).l j).2
theorem pfpoor_any (A Pp Ww Rr : Option Addr) (ca cp cw cr : Nat) (cs : List CkR) (ps : List Pf.PcR) (ws : List Pf.RwR) (rs : List (Int × Int)) (k : Nat) (w : World) (h : SvI w A Pp Ww Rr cs ps ws rs) (g : SvG cs ps ws rs) (hk : k < cs.length) :
 Calls Tryz.prog 190 #[.agg #[.slice A cs.length ca,.slice Pp ps.length cp,.slice Ww ws.length cw,.slice Rr rs.length cr],.int .i64 (k : Nat)] w fun e w' => e = .returned (.bool (decide (Rp.q (Pf.wat (ws.map Pf.RwR.l) k k).1 (Pf.wat (ws.map Pf.RwR.l) k k).2 < Ch.shq (((cs.map Ak.dat).length : Nat) : Int) (Ak.dAt (cs.map Ak.dat) k))))∧Below w.heap.size w w':=by
 have hgd:=Ak.chkS_good g.ck;have hl1:=hgd.l0;have hl6:=hgd.l1
 have tt:=fun v (hv : Below w.heap.size w v) => pftotal_any A ca cs Pp Ww Rr ps.length cp ws.length cw rs.length cr k v (h.cs.keep hv) g.ck hk
 have hck:=(Pf.ck_at g.ck (j:=k) (by rw [List.length_map];exact hk)).1;have sh:=Ch.sh_ok (n:=(((cs.map Ak.dat).length : Nat) : Int)) hck (by omega) (by omega);have hG:=Ck.chk_good (show Ck.chk (Ak.dAt (cs.map Ak.dat) k).1 (Ak.dAt (cs.map Ak.dat) k).2.1 (Ak.dAt (cs.map Ak.dat) k).2.2 = 0 from hck);have t0:=(Ck.tot_bd hG _ (Nat.le_refl _)).1;have t1:=(Ck.tot_bd hG _ (Nat.le_refl _)).2;have l1:=hG.len1;have la:=hG.last
 have t2 : 0 ≤ Ch.tt (Ak.dAt (cs.map Ak.dat) k)∧Ch.tt (Ak.dAt (cs.map Ak.dat) k) ≤ 12000:=by
  unfold Ch.tt
  omega
 rw [Pf.wat_at (by have:=g.wl;omega)]
 unfold Ch.shq
 have hsh : Ch.sh (((cs.map Ak.dat).length : Nat) : Int) (Ak.dAt (cs.map Ak.dat) k) = Rp.makeS (Ch.tt (Ak.dAt (cs.map Ak.dat) k)) (((cs.map Ak.dat).length : Nat) : Int):=rfl;rw [hsh] at sh ⊢;rw [List.length_map] at hl1 hl6 sh ⊢;have so:=sh.2.1;clear la l1 t1 t0 hG hck hgd hsh sh
 generalize Ch.tt (Ak.dAt (cs.map Ak.dat) k) = T at *
 have mk:=fun v => Make_any T ((cs.length : Nat) : Int) (by omega) (by omega) (by omega) (by omega) v
 generalize Rp.makeS T ((cs.length : Nat) : Int) = M at *
 obtain ⟨M1,M2,M3⟩:=M;dsimp only at mk so ⊢;have ok:=g.ok k k hk hk;have hrl:=g.rl k (by have:=g.wl;omega);obtain ⟨⟨wb,wo,hW,hwc⟩,hwa⟩:=h.ws;obtain rfl:=hW (by have:=g.wl;omega);have wk:=hwc k (by have:=g.wl;omega);obtain ⟨rb,ro,hra,hrc⟩:=hwa k (by have:=g.wl;omega);obtain ⟨u0,u1⟩:=hrc k (by omega);rw [hra (by omega),hrl] at wk
 have cm:=fun v => pfcompare_any _ _ _ _ ok so v
 have HD:=Lib.hid (Rp.cmpQ_neg (Rp.q (Pf.iat (Pf.rat ws k).l k).1 (Pf.iat (Pf.rat ws k).l k).2) (Rp.q M1 M2))
 generalize Rp.cmpQ (Rp.q (Pf.iat (Pf.rat ws k).l k).1 (Pf.iat (Pf.rat ws k).l k).2) (Rp.q M1 M2) = R at *
 generalize Pf.iat (Pf.rat ws k).l k = r at *
 obtain ⟨r1,r2⟩:=r
 dsimp only at *
 generalize (Pf.rat ws k).cap = rcap at *
 have hwl:=g.wl;obtain ⟨nc,hnc⟩ : ∃ z,cs.length = z:=⟨_,rfl⟩;obtain ⟨nw,hnw⟩ : ∃ z,ws.length = z:=⟨_,rfl⟩;obtain ⟨nr,hnr⟩ : ∃ z,rs.length = z:=⟨_,rfl⟩;obtain ⟨np,hnp⟩ : ∃ z,ps.length = z:=⟨_,rfl⟩;rw [hnc,hnw,hnr,hnp] at tt;rw [hnc] at mk wk hwl hk hl1 hl6;rw [hnw] at hwl;rw [hnc,hnw,hnr,hnp];subst hwl
 have i1 : (k : Int) < (nw : Int):=by omega
 have i0 : (0 : Int) ≤ (k : Int):=by omega
 have TT:=Lib.hid tt;have MK:=Lib.hid mk;have CM:=Lib.hid cm;clear tt mk cm hnc hnw hnr hnp hra hrc hwa hwc hW h g ok so t2 hrl
 go_enter Tryz.func190,Tryz.ntmps190
 go_upto_region 1 with fail
 refine at_box1 (fun V hbb B0 hVs => ?_);have p0:=B0.c 0 rfl;have p1:=B0.c 1 rfl;have p2:=B0.c 2 rfl;have p3:=B0.c 3 rfl;have wk':=keepC hbb wk;have u0':=keepC hbb u0;have u1':=keepC hbb u1;clear wk u0 u1
 go_cut [5] (fun t v => ∃ pv : Nat,t = .pointer (some ⟨pv,0,none⟩)∧Below V.heap.size V v∧BK v pv [.int .i64 M1,.int .i64 M2])
 case first =>
  refine wp_region_held_drew (S:=(Below V.heap.size V)) (by kernel_rfl) ((Below.refl _ _).drew) (fun hHeld => ?_);refine at_anyH (Below V.heap.size V) hHeld (fun wa0 hNew => ?_);clear hHeld;have hHeld:=hNew;clear hNew;refine tkm 0 rfl hHeld (fun w hSw => by have kp0:=keepC hSw p0;have kp1:=keepC hSw p1;have kp2:=keepC hSw p2;have kp3:=keepC hSw p3;go_simp <;> with_reducible rfl) ?_;(try simp only [PPz]);refine tkd 1 ?_;refine tkd 3 ?_;(try simp only [PPz]);refine tkm 4 rfl hHeld (fun w hSw => by have kp0:=keepC hSw p0;have kp1:=keepC hSw p1;have kp2:=keepC hSw p2;have kp3:=keepC hSw p3;go_simp <;> with_reducible rfl) ?_;(try simp only [PPz]);refine tkd 5 ?_;(try simp only [PPz]);refine rdy2 2 10 rfl rfl (fun K hK => ?_) (fun K hK => ?_)
  ·
   go_simp;refine (TT.out _ (keepB hbb hHeld)).mono ?_;rintro e wa6 ⟨rfl,hb3⟩;(go_wp2_with fail);refine hK.out _ _ (keepB hHeld hb3) (fun hNew => ?_);replace hHeld:=hNew;clear hNew hK K hb3;(try simp only [PPz]);refine rdy2 6 10 rfl rfl (fun K hK => ?_) (fun K hK => ?_)
   ·
    go_simp;refine (MK.out _).mono ?_;rintro e wa7 ⟨rfl,hb3⟩;(go_wp2_with fail);refine hK.out _ _ (keepB hHeld hb3) (fun hNew => ?_);replace hHeld:=hNew;clear hNew hK K hb3;(try simp only [PPz]);refine tkd 7 ?_;refine tkd 8 ?_;refine tkd 9 ?_;(try simp only [PPz]);refine rdy1 10 rfl (fun K hK => ?_);go_simp;refine hK.out _ _ (below_al hHeld _) (fun hNew => ?_);have hm : V.heap.size ≤ wa7.heap.size:=hHeld.size;replace hHeld:=hNew;clear hNew hK K;(try simp only [PPz]);refine at_anyH (fun v => Below V.heap.size V v∧BK v wa7.heap.size [.int .i64 0,.int .i64 0]) ⟨hHeld,BK.new _ _ _⟩ (fun wa11 hS => ?_);clear hHeld;obtain ⟨hHeld,Bm⟩:=hS;refine rdy1 11 rfl (fun K hK => ?_);have n0:=Bm.c 0 rfl;have f0:=Bm.f 0 rfl;have n1:=Bm.c 1 rfl;have f1:=Bm.f 1 rfl;go_simp;clear n0 f0 n1 f1;refine hK.out _ _ (below_set (below_set hHeld (by omega) _) (by omega) _) (fun hNew => ?_);replace hHeld:=hNew;clear hNew hK K;(try simp only [PPz]);refine at_anyH (fun v => Below V.heap.size V v∧BK v wa7.heap.size [.int .i64 M1,.int .i64 M2]) ⟨hHeld,((Bm.set 0 _).set 1 _)⟩ (fun wa12 hS => ?_);clear hHeld Bm;obtain ⟨hHeld,Bm⟩:=hS;refine tkd 12 ?_;(try simp only [PPz]);refine wpAnyH_done (by kernel_rfl) ?_ _;(go_wp2_with fail)
    go_meet
    exact ⟨_,rfl,hHeld,Bm⟩
   ·
    go_simp;refine hK.out _ _ (below_al hHeld _) (fun hNew => ?_);have hm : V.heap.size ≤ wa6.heap.size:=hHeld.size;replace hHeld:=hNew;clear hNew hK K;(try simp only [PPz]);refine at_anyH (fun v => Below V.heap.size V v∧BK v wa6.heap.size [.int .i64 0,.int .i64 0]) ⟨hHeld,BK.new _ _ _⟩ (fun wa14 hS => ?_);clear hHeld;obtain ⟨hHeld,Bm⟩:=hS;refine rdy1 6 rfl (fun K hK => ?_);go_simp;refine (MK.out _).mono ?_;rintro e wa15 ⟨rfl,hb3⟩;(go_wp2_with fail);refine hK.out _ _ (keepB hHeld hb3) (fun hNew => ?_);replace Bm:=Bm.keep hb3;replace hHeld:=hNew;clear hNew hK K hb3;(try simp only [PPz]);refine tkd 7 ?_;refine tkd 8 ?_;refine tkd 9 ?_;(try simp only [PPz]);refine rdy1 11 rfl (fun K hK => ?_);have n0:=Bm.c 0 rfl;have f0:=Bm.f 0 rfl;have n1:=Bm.c 1 rfl;have f1:=Bm.f 1 rfl;go_simp;clear n0 f0 n1 f1;refine hK.out _ _ (below_set (below_set hHeld (by omega) _) (by omega) _) (fun hNew => ?_);replace hHeld:=hNew;clear hNew hK K;(try simp only [PPz]);refine at_anyH (fun v => Below V.heap.size V v∧BK v wa6.heap.size [.int .i64 M1,.int .i64 M2]) ⟨hHeld,((Bm.set 0 _).set 1 _)⟩ (fun wa19 hS => ?_);clear hHeld Bm;obtain ⟨hHeld,Bm⟩:=hS;refine tkd 12 ?_;(try simp only [PPz]);refine wpAnyH_done (by kernel_rfl) ?_ _;(go_wp2_with fail)
    go_meet
    exact ⟨_,rfl,hHeld,Bm⟩
  ·
   go_simp;refine hK.out _ _ (below_al hHeld _) (fun hNew => ?_);have hm : V.heap.size ≤ wa0.heap.size:=hHeld.size;replace hHeld:=hNew;clear hNew hK K;(try simp only [PPz]);refine at_anyH (fun v => Below V.heap.size V v∧BK v wa0.heap.size [.int .i64 0,.int .i64 0]) ⟨hHeld,BK.new _ _ _⟩ (fun wa21 hS => ?_);clear hHeld;obtain ⟨hHeld,Bm⟩:=hS;refine rdy1 2 rfl (fun K hK => ?_);go_simp;refine (TT.out _ (keepB hbb hHeld)).mono ?_;rintro e wa22 ⟨rfl,hb3⟩;(go_wp2_with fail);refine hK.out _ _ (keepB hHeld hb3) (fun hNew => ?_);replace Bm:=Bm.keep hb3;replace hHeld:=hNew;clear hNew hK K hb3;(try simp only [PPz]);refine rdy1 6 rfl (fun K hK => ?_);go_simp;refine (MK.out _).mono ?_;rintro e wa23 ⟨rfl,hb3⟩;(go_wp2_with fail);refine hK.out _ _ (keepB hHeld hb3) (fun hNew => ?_);replace Bm:=Bm.keep hb3;replace hHeld:=hNew;clear hNew hK K hb3;(try simp only [PPz]);refine tkd 7 ?_;refine tkd 8 ?_;refine tkd 9 ?_;(try simp only [PPz]);refine rdy1 11 rfl (fun K hK => ?_);have n0:=Bm.c 0 rfl;have f0:=Bm.f 0 rfl;have n1:=Bm.c 1 rfl;have f1:=Bm.f 1 rfl;go_simp;clear n0 f0 n1 f1;refine hK.out _ _ (below_set (below_set hHeld (by omega) _) (by omega) _) (fun hNew => ?_);replace hHeld:=hNew;clear hNew hK K;(try simp only [PPz]);refine at_anyH (fun v => Below V.heap.size V v∧BK v wa0.heap.size [.int .i64 M1,.int .i64 M2]) ⟨hHeld,((Bm.set 0 _).set 1 _)⟩ (fun wa27 hS => ?_);clear hHeld Bm;obtain ⟨hHeld,Bm⟩:=hS;refine tkd 12 ?_;(try simp only [PPz]);refine wpAnyH_done (by kernel_rfl) ?_ _;(go_wp2_with fail)
   go_meet
   exact ⟨_,rfl,hHeld,Bm⟩
 case rest =>
  obtain ⟨pv,rfl,hb2,Bm⟩:=hcut;replace hbb:=keepB hbb hb2;replace p0:=keepC hb2 p0;replace p1:=keepC hb2 p1;replace p2:=keepC hb2 p2;replace p3:=keepC hb2 p3;replace wk':=keepC hb2 wk';replace u0':=keepC hb2 u0';replace u1':=keepC hb2 u1';clear hb2 B0
  go_upto_region 2 with fail
  refine at_worldQ (fun v => Below w.heap.size w v∧BK v pv [.int .i64 M1,.int .i64 M2]∧v.cell? ⟨w.heap.size,0,none⟩ = some (.slice A nw ca)∧v.cell? ⟨w.heap.size,1,none⟩ = some (.slice Pp np cp)∧v.cell? ⟨w.heap.size,2,none⟩ = some (.slice (some ⟨wb,wo,none⟩) nw cw)∧v.cell? ⟨w.heap.size,3,none⟩ = some (.slice Rr nr cr)∧v.cell? ⟨wb,wo + k,none⟩ = some (.slice (some ⟨rb,ro,none⟩) nw rcap)∧v.cell? ⟨rb,ro + k * 2,none⟩ = some (.int .i64 r1)∧v.cell? ⟨rb,ro + k * 2 + 1,none⟩ = some (.int .i64 r2)) ⟨hbb,Bm,p0,p1,p2,p3,wk',u0',u1'⟩ (fun V2 hS => ?_);clear hbb Bm p0 p1 p2 p3 wk' u0' u1';obtain ⟨hbb,Bm,p0,p1,p2,p3,t0,u0,u1⟩:=hS;have m0:=Bm.c 0 rfl;have m1:=Bm.c 1 rfl;refine wp_region_noPanic ?_;refine wp_region_held_drew (S:=(Below V2.heap.size V2)) (by kernel_rfl) ((Below.refl _ _).drew) (fun hHeld => ?_);refine at_anyH (Below V2.heap.size V2) hHeld (fun wb0 hNew => ?_);clear hHeld;have hHeld:=hNew;clear hNew;refine tkd 0 ?_;(try simp only [PPz]);refine tkm 1 rfl hHeld (fun w hSw => by have kp0:=keepC hSw p0;have kp1:=keepC hSw p1;have kp2:=keepC hSw p2;have kp3:=keepC hSw p3;have km0:=keepC hSw m0;have km1:=keepC hSw m1;have kt0:=keepC hSw t0;have ku0:=keepC hSw u0;have ku1:=keepC hSw u1;go_simp <;> with_reducible rfl) ?_;(try simp only [PPz]);refine tkd 2 ?_;refine tkd 3 ?_;(try simp only [PPz]);refine tkm 4 rfl hHeld (fun w hSw => by have kp0:=keepC hSw p0;have kp1:=keepC hSw p1;have kp2:=keepC hSw p2;have kp3:=keepC hSw p3;have km0:=keepC hSw m0;have km1:=keepC hSw m1;have kt0:=keepC hSw t0;have ku0:=keepC hSw u0;have ku1:=keepC hSw u1;go_simp <;> with_reducible rfl) ?_;(try simp only [PPz]);refine tkd 5 ?_;refine tkd 6 ?_;(try simp only [PPz]);refine tkm 7 rfl hHeld (fun w hSw => by have kp0:=keepC hSw p0;have kp1:=keepC hSw p1;have kp2:=keepC hSw p2;have kp3:=keepC hSw p3;have km0:=keepC hSw m0;have km1:=keepC hSw m1;have kt0:=keepC hSw t0;have ku0:=keepC hSw u0;have ku1:=keepC hSw u1;go_simp <;> with_reducible rfl) ?_;(try simp only [PPz]);refine tkm 8 rfl hHeld (fun w hSw => by have kp0:=keepC hSw p0;have kp1:=keepC hSw p1;have kp2:=keepC hSw p2;have kp3:=keepC hSw p3;have km0:=keepC hSw m0;have km1:=keepC hSw m1;have kt0:=keepC hSw t0;have ku0:=keepC hSw u0;have ku1:=keepC hSw u1;go_simp <;> with_reducible rfl) ?_;(try simp only [PPz]);refine rdy1 9 rfl (fun K hK => ?_);go_simp;refine (CM.out _).mono ?_;rintro e wb10 ⟨rfl,hb3⟩;(go_wp2_with fail);refine hK.out _ _ (keepB hHeld hb3) (fun hNew => ?_);replace hHeld:=hNew;clear hNew hK K hb3;(try simp only [PPz]);refine tkd 10 ?_;refine tkd 11 ?_;(try simp only [PPz]);refine wpAnyH_done (by kernel_rfl) ?_ _;refine NoPanic.normal ?_;replace hbb:=keepB hbb hHeld;clear hHeld;(go_wp2_with fail)
  go_ret
  exact ⟨by rw [← HD.out];rfl,hbb⟩
theorem pfcl1_any (A Pp Ww Rr : Option Addr) (ca cp cw cr : Nat) (cs : List CkR) (ps : List Pf.PcR) (ws : List Pf.RwR) (rs : List (Int × Int)) (a b p : Nat) (w : World) (h : SvI w A Pp Ww Rr cs ps ws rs) (g : SvG cs ps ws rs) (hB : BK w p [.slice A cs.length ca,.slice Pp ps.length cp,.slice Ww ws.length cw,.slice Rr rs.length cr]) (ha : a < cs.length) (hb : b < cs.length) :
 Calls Tryz.prog 187 #[.int .i64 (a : Nat),.int .i64 (b : Nat),.pointer (some ⟨p,0,none⟩)] w fun e w' => e = .returned (.bool (Pf.cx (cs.map Ak.dat) (ps.map Pf.PcR.L) (ws.map Pf.RwR.l) rs 1 a b))∧Below w.heap.size w w':=by
 have p0:=hB.c 0 rfl;have p1:=hB.c 1 rfl;have p2:=hB.c 2 rfl;have p3:=hB.c 3 rfl;have gp:=g.pl;have gw:=g.wl;have hl6:=(Ak.chkS_good g.ck).l1;rw [List.length_map] at hl6
 have e : Pf.cx (cs.map Ak.dat) (ps.map Pf.PcR.L) (ws.map Pf.RwR.l) rs 1 a b = (decide (a < b) && Pf.comB (Pf.pat ps a).L (Pf.pat ps b).L):=by
  unfold Pf.cx
  rw [if_pos rfl,Pf.psd_at (by omega),Pf.psd_at (by omega)]
 rw [e]
 have com:=fun v (hv : Below w.heap.size w v) => pfcommon_any (Pf.pat ps a).A (Pf.pat ps b).A (Pf.pat ps a).cap (Pf.pat ps b).cap (Pf.pat ps a).L (Pf.pat ps b).L v ((h.ps.all a (by omega)).keep hv) ((h.ps.all b (by omega)).keep hv)
 obtain ⟨⟨pb,po,hP,hpc⟩,-⟩:=h.ps;obtain rfl:=hP (by omega);have q0:=hpc a (by omega);have q1:=hpc b (by omega)
 generalize Pf.comB (Pf.pat ps a).L (Pf.pat ps b).L = R at *
 generalize Pf.pat ps a = x at *
 generalize Pf.pat ps b = y at *
 obtain ⟨xA,xc,xL⟩:=x;obtain ⟨yA,yc,yL⟩:=y
 dsimp only at *
 obtain ⟨lx,hlx⟩ : ∃ z,xL.length = z:=⟨_,rfl⟩;obtain ⟨ly,hly⟩ : ∃ z,yL.length = z:=⟨_,rfl⟩;rw [hlx,hly] at com;rw [hlx] at q0;rw [hly] at q1;obtain ⟨nc,hnc⟩ : ∃ z,cs.length = z:=⟨_,rfl⟩;obtain ⟨nw,hnw⟩ : ∃ z,ws.length = z:=⟨_,rfl⟩;obtain ⟨nr,hnr⟩ : ∃ z,rs.length = z:=⟨_,rfl⟩;obtain ⟨np,hnp⟩ : ∃ z,ps.length = z:=⟨_,rfl⟩;rw [hnc] at p0;rw [hnp] at p1;rw [hnw] at p2;rw [hnr] at p3;rw [hnc] at ha hb gp gw hl6;rw [hnp] at gp;subst gp;have COM:=Lib.hid com;clear com e hlx hly hnc hnw hnr hnp hpc hP h g hB
 have i1 : (a : Int) < (np : Int):=by omega
 have i2 : (b : Int) < (np : Int):=by omega
 have i3 : (0 : Int) ≤ (a : Int):=by omega
 have i4 : (0 : Int) ≤ (b : Int):=by omega
 by_cases hlt : a < b
 ·have j1 : (a : Int) < (b : Int):=by omega
  rw [decide_eq_true hlt,Bool.true_and]
  go_enter Tryz.func187,Tryz.ntmps187
  go_upto_region 1 with fail
  refine wp_region_noPanic ?_;refine wp_region_held_drew (S:=(Below w.heap.size w)) (by kernel_rfl) ((Below.refl _ _).drew) (fun hHeld => ?_);refine at_anyH (Below w.heap.size w) hHeld (fun wa0 hNew => ?_);clear hHeld;have hHeld:=hNew;clear hNew;refine tkd 0 ?_;refine tkd 1 ?_;(try simp only [PPz]);refine tkn 2 (.bool true) rfl ?_ hHeld ?_
  ·intro w hSw
   go_simp
   first | done | omega
  (try simp only [PPz]);refine tkd 3 ?_;refine tkd 4 ?_;(try simp only [PPz]);refine tkm 5 rfl hHeld (fun w hSw => by have kp1:=keepC hSw p1;have kq0:=keepC hSw q0;have kq1:=keepC hSw q1;go_simp <;> with_reducible rfl) ?_;(try simp only [PPz]);refine tkd 6 ?_;refine tkd 7 ?_;(try simp only [PPz]);refine tkm 8 rfl hHeld (fun w hSw => by have kp1:=keepC hSw p1;have kq0:=keepC hSw q0;have kq1:=keepC hSw q1;go_simp <;> with_reducible rfl) ?_;(try simp only [PPz]);refine tkd 9 ?_;(try simp only [PPz]);refine tkm 10 rfl hHeld (fun w hSw => by have kp1:=keepC hSw p1;have kq0:=keepC hSw q0;have kq1:=keepC hSw q1;go_simp <;> with_reducible rfl) ?_;(try simp only [PPz]);refine tkd 11 ?_;refine tkd 12 ?_;(try simp only [PPz]);refine tkm 13 rfl hHeld (fun w hSw => by have kp1:=keepC hSw p1;have kq0:=keepC hSw q0;have kq1:=keepC hSw q1;go_simp <;> with_reducible rfl) ?_;(try simp only [PPz]);refine rdy1 14 rfl (fun K hK => ?_);go_simp;refine (COM.out _ hHeld).mono ?_;rintro e wa15 ⟨rfl,hb3⟩;(go_wp2_with fail);refine hK.out _ _ (keepB hHeld hb3) (fun hNew => ?_);replace hHeld:=hNew;clear hNew hK K hb3;(try simp only [PPz]);refine tkd 15 ?_;refine tkd 16 ?_;(try simp only [PPz]);refine wpAnyH_done (by kernel_rfl) ?_ _;refine NoPanic.normal ?_;(go_wp2_with fail)
  go_ret
  exact ⟨rfl,hHeld⟩
 ·have j1 : ¬ (a : Int) < (b : Int):=by omega
  rw [decide_eq_false hlt,Bool.false_and]
  go_enter Tryz.func187,Tryz.ntmps187
  go_upto_region 1 with fail
  refine wp_region_noPanic ?_;refine wp_region_held_drew (S:=(Below w.heap.size w)) (by kernel_rfl) ((Below.refl _ _).drew) (fun hHeld => ?_);refine at_anyH (Below w.heap.size w) hHeld (fun wb0 hNew => ?_);clear hHeld;have hHeld:=hNew;clear hNew;refine tkd 0 ?_;refine tkd 1 ?_;(try simp only [PPz]);refine tkn 2 (.bool false) rfl ?_ hHeld ?_
  ·intro w hSw
   go_simp
   first | done | omega
  (try simp only [PPz]);refine tkd 3 ?_;(try simp only [PPz]);refine tkns 4 rfl hHeld ?_;(try simp only [PPz]);refine tkns 5 rfl hHeld ?_;(try simp only [PPz]);refine tkns 6 rfl hHeld ?_;(try simp only [PPz]);refine tkns 7 rfl hHeld ?_;(try simp only [PPz]);refine tkns 8 rfl hHeld ?_;(try simp only [PPz]);refine tkns 9 rfl hHeld ?_;(try simp only [PPz]);refine tkns 10 rfl hHeld ?_;(try simp only [PPz]);refine tkns 11 rfl hHeld ?_;(try simp only [PPz]);refine tkns 12 rfl hHeld ?_;(try simp only [PPz]);refine tkns 13 rfl hHeld ?_;(try simp only [PPz]);refine tkns 14 rfl hHeld ?_;(try simp only [PPz]);refine tkd 15 ?_;refine tkd 16 ?_;(try simp only [PPz]);refine wpAnyH_done (by kernel_rfl) ?_ _;refine NoPanic.normal ?_;(go_wp2_with fail)
  go_ret
  exact ⟨rfl,hHeld⟩
theorem pfcl2_any (A Pp Ww Rr : Option Addr) (ca cp cw cr : Nat) (cs : List CkR) (ps : List Pf.PcR) (ws : List Pf.RwR) (rs : List (Int × Int)) (a b p : Nat) (w : World) (h : SvI w A Pp Ww Rr cs ps ws rs) (g : SvG cs ps ws rs) (hB : BK w p [.slice A cs.length ca,.slice Pp ps.length cp,.slice Ww ws.length cw,.slice Rr rs.length cr]) (ha : a < cs.length) (hb : b < cs.length) :
 Calls Tryz.prog 189 #[.int .i64 (a : Nat),.int .i64 (b : Nat),.pointer (some ⟨p,0,none⟩)] w fun e w' => e = .returned (.bool (Pf.cx (cs.map Ak.dat) (ps.map Pf.PcR.L) (ws.map Pf.RwR.l) rs 2 a b))∧Below w.heap.size w w':=by
 have p0:=hB.c 0 rfl;have p1:=hB.c 1 rfl;have p2:=hB.c 2 rfl;have p3:=hB.c 3 rfl;have gp:=g.pl;have gw:=g.wl;have hl6:=(Ak.chkS_good g.ck).l1;rw [List.length_map] at hl6
 have e : Pf.cx (cs.map Ak.dat) (ps.map Pf.PcR.L) (ws.map Pf.RwR.l) rs 2 a b = (decide (a = b) && decide (Rp.q (Pf.wat (ws.map Pf.RwR.l) a a).1 (Pf.wat (ws.map Pf.RwR.l) a a).2 < Ch.shq (((cs.map Ak.dat).length : Nat) : Int) (Ak.dAt (cs.map Ak.dat) a))):=by
  unfold Pf.cx
  rw [if_neg (by decide),if_pos rfl]
 rw [e]
 have poor:=fun v (hv : Below w.heap.size w v) => pfpoor_any A Pp Ww Rr ca cp cw cr cs ps ws rs a v (h.keep hv) g ha
 generalize decide (Rp.q (Pf.wat (ws.map Pf.RwR.l) a a).1 (Pf.wat (ws.map Pf.RwR.l) a a).2 < Ch.shq (((cs.map Ak.dat).length : Nat) : Int) (Ak.dAt (cs.map Ak.dat) a)) = R at *
 obtain ⟨nc,hnc⟩ : ∃ z,cs.length = z:=⟨_,rfl⟩;obtain ⟨nw,hnw⟩ : ∃ z,ws.length = z:=⟨_,rfl⟩;obtain ⟨nr,hnr⟩ : ∃ z,rs.length = z:=⟨_,rfl⟩;obtain ⟨np,hnp⟩ : ∃ z,ps.length = z:=⟨_,rfl⟩;rw [hnc] at p0;rw [hnp] at p1;rw [hnw] at p2;rw [hnr] at p3;rw [hnc,hnw,hnr,hnp] at poor;have PO:=Lib.hid poor;clear poor e hnc hnw hnr hnp h g hB gp gw
 by_cases hlt : a = b
 ·subst hlt
  have j1 : ((a : Int) == (a : Int)) = true:=by simp
  rw [decide_eq_true rfl,Bool.true_and]
  go_enter Tryz.func189,Tryz.ntmps189
  (go_wp2_with fail);refine (PO.out _ (Below.refl _ _)).mono ?_;rintro e w1 ⟨rfl,hbb⟩;(go_wp2_with fail)
  go_ret
  exact ⟨rfl,hbb⟩
 ·have j1 : ((a : Int) == (b : Int)) = false:=by simp;omega
  rw [decide_eq_false hlt,Bool.false_and];clear hlt
  go_enter Tryz.func189,Tryz.ntmps189
  go_wp2_with fail
  go_ret
  exact ⟨rfl,Below.refl _ _⟩
theorem pfcl3_any (A Pp Ww Rr : Option Addr) (ca cp cw cr : Nat) (cs : List CkR) (ps : List Pf.PcR) (ws : List Pf.RwR) (rs : List (Int × Int)) (a b p : Nat) (w : World) (h : SvI w A Pp Ww Rr cs ps ws rs) (g : SvG cs ps ws rs) (hB : BK w p [.slice A cs.length ca,.slice Pp ps.length cp,.slice Ww ws.length cw,.slice Rr rs.length cr]) (ha : a < cs.length) (hb : b < cs.length) :
 Calls Tryz.prog 191 #[.int .i64 (a : Nat),.int .i64 (b : Nat),.pointer (some ⟨p,0,none⟩)] w fun e w' => e = .returned (.bool (Pf.cx (cs.map Ak.dat) (ps.map Pf.PcR.L) (ws.map Pf.RwR.l) rs 4 a b))∧Below w.heap.size w w':=by
 have p0:=hB.c 0 rfl;have p1:=hB.c 1 rfl;have p2:=hB.c 2 rfl;have p3:=hB.c 3 rfl;have gp:=g.pl;have gw:=g.wl;have hl6:=(Ak.chkS_good g.ck).l1;rw [List.length_map] at hl6
 have e : Pf.cx (cs.map Ak.dat) (ps.map Pf.PcR.L) (ws.map Pf.RwR.l) rs 4 a b = decide (Rp.q (Pf.iat (Pf.rat ws a).l a).1 (Pf.iat (Pf.rat ws a).l a).2 < Rp.q (Pf.iat (Pf.rat ws a).l b).1 (Pf.iat (Pf.rat ws a).l b).2):=by
  unfold Pf.cx
  rw [if_neg (by decide),if_neg (by decide),if_pos rfl,Pf.wat_at (by omega),Pf.wat_at (by omega)]
 rw [e];have o1:=g.ok a a ha ha;have o2:=g.ok a b ha hb;have hrl:=g.rl a (by omega);obtain ⟨⟨wb,wo,hW,hwc⟩,hwa⟩:=h.ws;obtain rfl:=hW (by omega);have wk:=hwc a (by omega);obtain ⟨rb,ro,hra,hrc⟩:=hwa a (by omega);obtain ⟨u0,u1⟩:=hrc a (by omega);obtain ⟨y0,y1⟩:=hrc b (by omega);rw [hra (by omega),hrl] at wk
 have cm:=fun v => pfcompare_any _ _ _ _ o1 o2 v
 have HD:=Lib.hid (Rp.cmpQ_neg (Rp.q (Pf.iat (Pf.rat ws a).l a).1 (Pf.iat (Pf.rat ws a).l a).2) (Rp.q (Pf.iat (Pf.rat ws a).l b).1 (Pf.iat (Pf.rat ws a).l b).2))
 generalize Rp.cmpQ (Rp.q (Pf.iat (Pf.rat ws a).l a).1 (Pf.iat (Pf.rat ws a).l a).2) (Rp.q (Pf.iat (Pf.rat ws a).l b).1 (Pf.iat (Pf.rat ws a).l b).2) = R at *
 generalize Pf.iat (Pf.rat ws a).l a = r at *
 generalize Pf.iat (Pf.rat ws a).l b = s at *
 obtain ⟨r1,r2⟩:=r;obtain ⟨s1,s2⟩:=s
 dsimp only at *
 generalize (Pf.rat ws a).cap = rcap at *
 obtain ⟨nc,hnc⟩ : ∃ z,cs.length = z:=⟨_,rfl⟩;obtain ⟨nw,hnw⟩ : ∃ z,ws.length = z:=⟨_,rfl⟩;obtain ⟨nr,hnr⟩ : ∃ z,rs.length = z:=⟨_,rfl⟩;obtain ⟨np,hnp⟩ : ∃ z,ps.length = z:=⟨_,rfl⟩;rw [hnc] at p0;rw [hnp] at p1;rw [hnw] at p2;rw [hnr] at p3;rw [hnc] at ha hb gp gw hl6 wk;rw [hnw] at gw;subst gw;have CM:=Lib.hid cm;clear cm e hnc hnw hnr hnp hwc hwa hra hrc hW h g hB o1 o2 hrl
 have i1 : (a : Int) < (nw : Int):=by omega
 have i2 : (b : Int) < (nw : Int):=by omega
 have i3 : (0 : Int) ≤ (a : Int):=by omega
 have i4 : (0 : Int) ≤ (b : Int):=by omega
 go_enter Tryz.func191,Tryz.ntmps191
 go_upto_region 1 with fail
 refine wp_region_noPanic ?_;refine wp_region_held_drew (S:=(Below w.heap.size w)) (by kernel_rfl) ((Below.refl _ _).drew) (fun hHeld => ?_);refine at_anyH (Below w.heap.size w) hHeld (fun wa0 hNew => ?_);clear hHeld;have hHeld:=hNew;clear hNew;refine tkd 0 ?_;(try simp only [PPz]);refine tkm 1 rfl hHeld (fun w hSw => by have kp2:=keepC hSw p2;have kwk:=keepC hSw wk;have ku0:=keepC hSw u0;have ku1:=keepC hSw u1;have ky0:=keepC hSw y0;have ky1:=keepC hSw y1;go_simp <;> with_reducible rfl) ?_;(try simp only [PPz]);refine tkd 2 ?_;refine tkd 3 ?_;(try simp only [PPz]);refine tkm 4 rfl hHeld (fun w hSw => by have kp2:=keepC hSw p2;have kwk:=keepC hSw wk;have ku0:=keepC hSw u0;have ku1:=keepC hSw u1;have ky0:=keepC hSw y0;have ky1:=keepC hSw y1;go_simp <;> with_reducible rfl) ?_;(try simp only [PPz]);refine tkd 5 ?_;refine tkd 6 ?_;(try simp only [PPz]);refine tkm 7 rfl hHeld (fun w hSw => by have kp2:=keepC hSw p2;have kwk:=keepC hSw wk;have ku0:=keepC hSw u0;have ku1:=keepC hSw u1;have ky0:=keepC hSw y0;have ky1:=keepC hSw y1;go_simp <;> with_reducible rfl) ?_;(try simp only [PPz]);refine tkd 8 ?_;(try simp only [PPz]);refine tkm 9 rfl hHeld (fun w hSw => by have kp2:=keepC hSw p2;have kwk:=keepC hSw wk;have ku0:=keepC hSw u0;have ku1:=keepC hSw u1;have ky0:=keepC hSw y0;have ky1:=keepC hSw y1;go_simp <;> with_reducible rfl) ?_;(try simp only [PPz]);refine tkd 10 ?_;refine tkd 11 ?_;(try simp only [PPz]);refine tkm 12 rfl hHeld (fun w hSw => by have kp2:=keepC hSw p2;have kwk:=keepC hSw wk;have ku0:=keepC hSw u0;have ku1:=keepC hSw u1;have ky0:=keepC hSw y0;have ky1:=keepC hSw y1;go_simp <;> with_reducible rfl) ?_;(try simp only [PPz]);refine tkd 13 ?_;refine tkd 14 ?_;(try simp only [PPz]);refine tkm 15 rfl hHeld (fun w hSw => by have kp2:=keepC hSw p2;have kwk:=keepC hSw wk;have ku0:=keepC hSw u0;have ku1:=keepC hSw u1;have ky0:=keepC hSw y0;have ky1:=keepC hSw y1;go_simp <;> with_reducible rfl) ?_;(try simp only [PPz]);refine rdy1 16 rfl (fun K hK => ?_);go_simp;refine (CM.out _).mono ?_;rintro e wa17 ⟨rfl,hb3⟩;(go_wp2_with fail);refine hK.out _ _ (keepB hHeld hb3) (fun hNew => ?_);replace hHeld:=hNew;clear hNew hK K hb3;(try simp only [PPz]);refine tkd 17 ?_;refine tkd 18 ?_;(try simp only [PPz]);refine wpAnyH_done (by kernel_rfl) ?_ _;refine NoPanic.normal ?_;(go_wp2_with fail)
 go_ret
 exact ⟨by rw [← HD.out];rfl,hHeld⟩
theorem pfcl4_any (A Pp Ww Rr : Option Addr) (ca cp cw cr : Nat) (cs : List CkR) (ps : List Pf.PcR) (ws : List Pf.RwR) (rs : List (Int × Int)) (a b p : Nat) (w : World) (h : SvI w A Pp Ww Rr cs ps ws rs) (g : SvG cs ps ws rs) (hB : BK w p [.slice A cs.length ca,.slice Pp ps.length cp,.slice Ww ws.length cw,.slice Rr rs.length cr]) (ha : a < cs.length) (hb : b < cs.length) (hr : rs.length = cs.length) :
 Calls Tryz.prog 193 #[.int .i64 (a : Nat),.int .i64 (b : Nat),.pointer (some ⟨p,0,none⟩)] w fun e w' => e = .returned (.bool (Pf.cx (cs.map Ak.dat) (ps.map Pf.PcR.L) (ws.map Pf.RwR.l) rs 8 a b))∧Below w.heap.size w w':=by
 have p0:=hB.c 0 rfl;have p1:=hB.c 1 rfl;have p2:=hB.c 2 rfl;have p3:=hB.c 3 rfl;have gp:=g.pl;have gw:=g.wl;have hl6:=(Ak.chkS_good g.ck).l1;rw [List.length_map] at hl6
 have e : Pf.cx (cs.map Ak.dat) (ps.map Pf.PcR.L) (ws.map Pf.RwR.l) rs 8 a b = (decide (b = 0) && decide (Pf.iat rs a ≠ Pf.iat rs 0)):=by
  unfold Pf.cx
  rw [if_neg (by decide),if_neg (by decide),if_neg (by decide),if_pos rfl]
 rw [e];obtain ⟨rb,ro,hR,hrc⟩:=h.rs;obtain rfl:=hR (by omega);obtain ⟨u0,u1⟩:=hrc a (by omega);obtain ⟨y0,y1⟩:=hrc 0 (by omega)
 simp only [Nat.zero_mul,Nat.add_zero] at y0 y1
 generalize Pf.iat rs a = r at *
 generalize Pf.iat rs 0 = s at *
 obtain ⟨r1,r2⟩:=r;obtain ⟨s1,s2⟩:=s
 dsimp only at *
 obtain ⟨nc,hnc⟩ : ∃ z,cs.length = z:=⟨_,rfl⟩;obtain ⟨nw,hnw⟩ : ∃ z,ws.length = z:=⟨_,rfl⟩;obtain ⟨nr,hnr⟩ : ∃ z,rs.length = z:=⟨_,rfl⟩;obtain ⟨np,hnp⟩ : ∃ z,ps.length = z:=⟨_,rfl⟩;rw [hnc] at p0;rw [hnp] at p1;rw [hnw] at p2;rw [hnr] at p3;rw [hnc] at ha hb gp gw hl6 hr;rw [hnr] at hr;subst hr;clear e hnc hnw hnr hnp hrc hR h g hB gp gw
 have i1 : (a : Int) < (nr : Int):=by omega
 have i2 : (0 : Int) < (nr : Int):=by omega
 have i3 : (0 : Int) ≤ (a : Int):=by omega
 by_cases hlt : b = 0
 ·have j1 : (((0 : Nat) : Int) == 0) = true:=rfl
  rw [decide_eq_true hlt,Bool.true_and];subst hlt
  by_cases he : (r1,r2) = (s1,s2)
  ·rw [decide_eq_false (by simpa using he)]
   simp only [Prod.mk.injEq] at he
   obtain ⟨rfl,rfl⟩:=he
   go_enter Tryz.func193,Tryz.ntmps193
   go_upto_region 1 with fail
   refine wp_region_noPanic ?_;refine wp_region_held_drew (S:=(Below w.heap.size w)) (by kernel_rfl) ((Below.refl _ _).drew) (fun hHeld => ?_);refine at_anyH (Below w.heap.size w) hHeld (fun wa0 hNew => ?_);clear hHeld;have hHeld:=hNew;clear hNew;refine tkd 0 ?_;(try simp only [PPz]);refine tkn 1 (.bool true) rfl ?_ hHeld ?_
   ·intro w hSw
    go_simp
    first | done | omega
   (try simp only [PPz]);refine tkd 2 ?_;refine tkd 3 ?_;(try simp only [PPz]);refine tkm 4 rfl hHeld (fun w hSw => by have kp3:=keepC hSw p3;have ku0:=keepC hSw u0;have ku1:=keepC hSw u1;have ky0:=keepC hSw y0;have ky1:=keepC hSw y1;go_simp <;> with_reducible rfl) ?_;(try simp only [PPz]);refine tkd 5 ?_;refine tkd 6 ?_;(try simp only [PPz]);refine tkm 7 rfl hHeld (fun w hSw => by have kp3:=keepC hSw p3;have ku0:=keepC hSw u0;have ku1:=keepC hSw u1;have ky0:=keepC hSw y0;have ky1:=keepC hSw y1;go_simp <;> with_reducible rfl) ?_;(try simp only [PPz]);refine tkd 8 ?_;(try simp only [PPz]);refine tkm 9 rfl hHeld (fun w hSw => by have kp3:=keepC hSw p3;have ku0:=keepC hSw u0;have ku1:=keepC hSw u1;have ky0:=keepC hSw y0;have ky1:=keepC hSw y1;go_simp <;> with_reducible rfl) ?_;(try simp only [PPz]);refine tkd 10 ?_;(try simp only [PPz]);refine tkm 11 rfl hHeld (fun w hSw => by have kp3:=keepC hSw p3;have ku0:=keepC hSw u0;have ku1:=keepC hSw u1;have ky0:=keepC hSw y0;have ky1:=keepC hSw y1;go_simp <;> with_reducible rfl) ?_;(try simp only [PPz]);refine tkd 12 ?_;refine tkd 13 ?_;refine tkd 14 ?_;(try simp only [PPz]);refine wpAnyH_done (by kernel_rfl) ?_ _;refine NoPanic.normal ?_;(go_wp2_with fail)
   go_ret
   exact ⟨rfl,hHeld⟩
  ·rw [decide_eq_true he]
   simp only [Prod.mk.injEq,not_and] at he
   go_enter Tryz.func193,Tryz.ntmps193
   go_upto_region 1 with fail
   refine wp_region_noPanic ?_;refine wp_region_held_drew (S:=(Below w.heap.size w)) (by kernel_rfl) ((Below.refl _ _).drew) (fun hHeld => ?_);refine at_anyH (Below w.heap.size w) hHeld (fun wb0 hNew => ?_);clear hHeld;have hHeld:=hNew;clear hNew;refine tkd 0 ?_;(try simp only [PPz]);refine tkn 1 (.bool true) rfl ?_ hHeld ?_
   ·intro w hSw
    go_simp
    first | done | omega
   (try simp only [PPz]);refine tkd 2 ?_;refine tkd 3 ?_;(try simp only [PPz]);refine tkm 4 rfl hHeld (fun w hSw => by have kp3:=keepC hSw p3;have ku0:=keepC hSw u0;have ku1:=keepC hSw u1;have ky0:=keepC hSw y0;have ky1:=keepC hSw y1;go_simp <;> with_reducible rfl) ?_;(try simp only [PPz]);refine tkd 5 ?_;refine tkd 6 ?_;(try simp only [PPz]);refine tkm 7 rfl hHeld (fun w hSw => by have kp3:=keepC hSw p3;have ku0:=keepC hSw u0;have ku1:=keepC hSw u1;have ky0:=keepC hSw y0;have ky1:=keepC hSw y1;go_simp <;> with_reducible rfl) ?_;(try simp only [PPz]);refine tkd 8 ?_;(try simp only [PPz]);refine tkm 9 rfl hHeld (fun w hSw => by have kp3:=keepC hSw p3;have ku0:=keepC hSw u0;have ku1:=keepC hSw u1;have ky0:=keepC hSw y0;have ky1:=keepC hSw y1;go_simp <;> with_reducible rfl) ?_;(try simp only [PPz]);refine tkd 10 ?_;(try simp only [PPz]);refine tkm 11 rfl hHeld (fun w hSw => by have kp3:=keepC hSw p3;have ku0:=keepC hSw u0;have ku1:=keepC hSw u1;have ky0:=keepC hSw y0;have ky1:=keepC hSw y1;go_simp <;> with_reducible rfl) ?_;(try simp only [PPz]);refine tkn 12 (.bool true) rfl ?_ hHeld ?_
   ·intro w hSw
    go_simp
    first | done | exact he | simpa using he | omega
   (try simp only [PPz]);refine tkd 13 ?_;refine tkd 14 ?_;(try simp only [PPz]);refine wpAnyH_done (by kernel_rfl) ?_ _;refine NoPanic.normal ?_;(go_wp2_with fail)
   go_ret
   exact ⟨rfl,hHeld⟩
 ·have j1 : ((b : Int) == 0) = false:=by simp;omega
  have j2 : ¬ (b : Int) = 0:=by omega
  rw [decide_eq_false hlt,Bool.false_and]
  go_enter Tryz.func193,Tryz.ntmps193
  go_upto_region 1 with fail
  refine wp_region_noPanic ?_;refine wp_region_held_drew (S:=(Below w.heap.size w)) (by kernel_rfl) ((Below.refl _ _).drew) (fun hHeld => ?_);refine at_anyH (Below w.heap.size w) hHeld (fun wc0 hNew => ?_);clear hHeld;have hHeld:=hNew;clear hNew;refine tkd 0 ?_;(try simp only [PPz]);refine tkn 1 (.bool false) rfl ?_ hHeld ?_
  ·intro w hSw
   go_simp
   first | done | omega
  (try simp only [PPz]);refine tkd 2 ?_;(try simp only [PPz]);refine tkns 3 rfl hHeld ?_;(try simp only [PPz]);refine tkns 4 rfl hHeld ?_;(try simp only [PPz]);refine tkns 5 rfl hHeld ?_;(try simp only [PPz]);refine tkns 6 rfl hHeld ?_;(try simp only [PPz]);refine tkns 7 rfl hHeld ?_;(try simp only [PPz]);refine tkns 8 rfl hHeld ?_;(try simp only [PPz]);refine tkns 9 rfl hHeld ?_;(try simp only [PPz]);refine tkns 10 rfl hHeld ?_;(try simp only [PPz]);refine tkns 11 rfl hHeld ?_;(try simp only [PPz]);refine tkns 12 rfl hHeld ?_;(try simp only [PPz]);refine tkd 13 ?_;refine tkd 14 ?_;(try simp only [PPz]);refine wpAnyH_done (by kernel_rfl) ?_ _;refine NoPanic.normal ?_;(go_wp2_with fail)
  go_ret
  exact ⟨rfl,hHeld⟩
theorem pfcl5_any (A Pp Ww Rr : Option Addr) (ca cp cw cr : Nat) (cs : List CkR) (ps : List Pf.PcR) (ws : List Pf.RwR) (rs : List (Int × Int)) (a b p : Nat) (w : World) (h : SvI w A Pp Ww Rr cs ps ws rs) (g : SvG cs ps ws rs) (hB : BK w p [.slice A cs.length ca,.slice Pp ps.length cp,.slice Ww ws.length cw,.slice Rr rs.length cr]) (ha : a < cs.length) (hb : b < cs.length) :
 Calls Tryz.prog 194 #[.int .i64 (a : Nat),.int .i64 (b : Nat),.pointer (some ⟨p,0,none⟩)] w fun e w' => e = .returned (.bool (Pf.cx (cs.map Ak.dat) (ps.map Pf.PcR.L) (ws.map Pf.RwR.l) rs 16 a b))∧Below w.heap.size w w':=by
 have p0:=hB.c 0 rfl;have p1:=hB.c 1 rfl;have p2:=hB.c 2 rfl;have p3:=hB.c 3 rfl;have gp:=g.pl;have gw:=g.wl;have hl6:=(Ak.chkS_good g.ck).l1;rw [List.length_map] at hl6
 have e : Pf.cx (cs.map Ak.dat) (ps.map Pf.PcR.L) (ws.map Pf.RwR.l) rs 16 a b = (decide (a = b) && decide ((Pf.pat ps a).L.length ≠ 1)):=by
  unfold Pf.cx
  rw [if_neg (by decide),if_neg (by decide),if_neg (by decide),if_neg (by decide),Pf.psd_at (by omega)]
 rw [e];obtain ⟨⟨pb,po,hP,hpc⟩,-⟩:=h.ps;obtain rfl:=hP (by omega);have q0:=hpc a (by omega)
 generalize (Pf.pat ps a).L.length = x at *
 obtain ⟨nc,hnc⟩ : ∃ z,cs.length = z:=⟨_,rfl⟩;obtain ⟨nw,hnw⟩ : ∃ z,ws.length = z:=⟨_,rfl⟩;obtain ⟨nr,hnr⟩ : ∃ z,rs.length = z:=⟨_,rfl⟩;obtain ⟨np,hnp⟩ : ∃ z,ps.length = z:=⟨_,rfl⟩;rw [hnc] at p0;rw [hnp] at p1;rw [hnw] at p2;rw [hnr] at p3;rw [hnc] at ha hb gp gw hl6;rw [hnp] at gp;subst gp;clear e hnc hnw hnr hnp hpc hP h g hB gw
 have i1 : (a : Int) < (np : Int):=by omega
 have i3 : (0 : Int) ≤ (a : Int):=by omega
 by_cases hlt : a = b
 ·subst hlt
  have j1 : ((a : Int) == (a : Int)) = true:=by simp
  rw [decide_eq_true rfl,Bool.true_and]
  by_cases hx : x = 1
  ·subst hx
   rw [decide_eq_false (by decide)];have x1 : ((1 : Int) == 1) = true:=rfl;have x2 : ((1 : Int) != 1) = false:=rfl
   go_enter Tryz.func194,Tryz.ntmps194
   go_wp2_with fail
   go_ret
   first
    | exact ⟨rfl,Below.refl _ _⟩
    | exact ⟨by simp,Below.refl _ _⟩
    | exact ⟨by simp [x1,x2],Below.refl _ _⟩
  ·rw [decide_eq_true hx]
   have x1 : ((x : Int) == 1) = false:=by simp;omega
   have x2 : ((x : Int) != 1) = true:=by simp;omega
   go_enter Tryz.func194,Tryz.ntmps194
   go_wp2_with fail
   go_ret
   first
    | exact ⟨rfl,Below.refl _ _⟩
    | exact ⟨by simp,Below.refl _ _⟩
    | exact ⟨by simp [x1,x2],Below.refl _ _⟩
 ·have j1 : ((a : Int) == (b : Int)) = false:=by simp;omega
  rw [decide_eq_false hlt,Bool.false_and];clear hlt
  go_enter Tryz.func194,Tryz.ntmps194
  go_wp2_with fail
  go_ret
  exact ⟨rfl,Below.refl _ _⟩
/-- What against hands back: a closure over a box of its own with the survey. -/
def AgQ (g : FuncId) (l : List Value) (w : World) (e : Ending) (w' : World) : Prop:=∃ p : Nat,e = .returned (.func (.func g) #[] #[.pointer (some ⟨p,0,none⟩)])∧Below w.heap.size w w'∧BK w' p l
theorem pfag1_any (A Pp Ww Rr : Option Addr) (nA ca nP cp nW cw nR cr : Nat) (w : World) : Calls Tryz.prog 150 #[.agg #[.slice A nA ca,.slice Pp nP cp,.slice Ww nW cw,.slice Rr nR cr],.int .u8 1] w (AgQ 187 [.slice A nA ca,.slice Pp nP cp,.slice Ww nW cw,.slice Rr nR cr] w):=by
 unfold AgQ
 go_enter Tryz.func150,Tryz.ntmps150
 go_upto_region 1 with fail
 refine at_box1 (fun V hbb B0 hVs => ?_);(go_wp2_with fail)
 go_ret
 exact ⟨_,rfl,hbb,B0⟩
theorem pfag2_any (A Pp Ww Rr : Option Addr) (nA ca nP cp nW cw nR cr : Nat) (w : World) : Calls Tryz.prog 150 #[.agg #[.slice A nA ca,.slice Pp nP cp,.slice Ww nW cw,.slice Rr nR cr],.int .u8 2] w (AgQ 189 [.slice A nA ca,.slice Pp nP cp,.slice Ww nW cw,.slice Rr nR cr] w):=by
 unfold AgQ
 go_enter Tryz.func150,Tryz.ntmps150
 go_upto_region 1 with fail
 refine at_box1 (fun V hbb B0 hVs => ?_);(go_wp2_with fail)
 go_ret
 exact ⟨_,rfl,hbb,B0⟩
theorem pfag3_any (A Pp Ww Rr : Option Addr) (nA ca nP cp nW cw nR cr : Nat) (w : World) : Calls Tryz.prog 150 #[.agg #[.slice A nA ca,.slice Pp nP cp,.slice Ww nW cw,.slice Rr nR cr],.int .u8 4] w (AgQ 191 [.slice A nA ca,.slice Pp nP cp,.slice Ww nW cw,.slice Rr nR cr] w):=by
 unfold AgQ
 go_enter Tryz.func150,Tryz.ntmps150
 go_upto_region 1 with fail
 refine at_box1 (fun V hbb B0 hVs => ?_);(go_wp2_with fail)
 go_ret
 exact ⟨_,rfl,hbb,B0⟩
theorem pfag4_any (A Pp Ww Rr : Option Addr) (nA ca nP cp nW cw nR cr : Nat) (w : World) : Calls Tryz.prog 150 #[.agg #[.slice A nA ca,.slice Pp nP cp,.slice Ww nW cw,.slice Rr nR cr],.int .u8 8] w (AgQ 193 [.slice A nA ca,.slice Pp nP cp,.slice Ww nW cw,.slice Rr nR cr] w):=by
 unfold AgQ
 go_enter Tryz.func150,Tryz.ntmps150
 go_upto_region 1 with fail
 refine at_box1 (fun V hbb B0 hVs => ?_);(go_wp2_with fail)
 go_ret
 exact ⟨_,rfl,hbb,B0⟩
theorem pfag5_any (A Pp Ww Rr : Option Addr) (nA ca nP cp nW cw nR cr : Nat) (w : World) : Calls Tryz.prog 150 #[.agg #[.slice A nA ca,.slice Pp nP cp,.slice Ww nW cw,.slice Rr nR cr],.int .u8 16] w (AgQ 194 [.slice A nA ca,.slice Pp nP cp,.slice Ww nW cw,.slice Rr nR cr] w):=by
 unfold AgQ
 go_enter Tryz.func150,Tryz.ntmps150
 go_upto_region 1 with fail
 refine at_box1 (fun V hbb B0 hVs => ?_);(go_wp2_with fail)
 go_ret
 exact ⟨_,rfl,hbb,B0⟩
end Go.Proofs.YtogmfebphiglaaaGreat


