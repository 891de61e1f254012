/- Package proof: partsOfTotals. Package proof: newSurvey. -/
import Derived.Test.YtogmfebphiglaaaGreatPfc
import Derived.Test.YtogmfebphiglaaaGreatPfh
set_option linter.unusedSimpArgs false
set_option maxHeartbeats 8000000
set_option maxRecDepth 100000
namespace Go.Proofs.YtogmfebphiglaaaGreat
open Go.RowKit
namespace Pf
/-- The part of its total that an agent has, and the error. -/
def dv (D : List CkD) (ws : List RwR) (a : Nat) : Int × Int × Int:=Rp.divS (iat (rat ws a).l a).1 (iat (rat ws a).l a).2 (Ch.tt (Ak.dAt D a)) 1
def dp (D : List CkD) (ws : List RwR) (a : Nat) : Int × Int:=((dv D ws a).1,(dv D ws a).2.1)
end Pf
/-- What partsOfTotals hands back. -/
def PtQ (D : List CkD) (ws : List Pf.RwR) (n : Nat) (w : World) (e : Ending) (w' : World) : Prop:=Below w.heap.size w w' ∧
 ((∃ a,a < n∧(Pf.dv D ws a).2.2 ≠ 0∧e = .returned (.tuple #[.slice none 0 0,.int .i64 (Pf.dv D ws a).2.2])) ∨
   ((∀ a,a < n → (Pf.dv D ws a).2.2 = 0)∧∃ (A : Option Addr) (cap : Nat),e = .returned (.tuple #[.slice A n cap,.int .i64 0])∧RsB w' w.heap.size w'.heap.size A ((List.range n).map (Pf.dp D ws))))
theorem pfparts_any (A Pp Ww Rr : Option Addr) (ca cp cw cr : Nat) (cs : List CkR) (ps : List Pf.PcR) (ws : List Pf.RwR) (rs : List (Int × Int)) (w : World) (h : SvI w A Pp Ww Rr cs ps ws rs) (g : SvG cs ps ws rs) :
 Calls Tryz.prog 73 #[.agg #[.slice A cs.length ca,.slice Pp ps.length cp,.slice Ww ws.length cw,.slice Rr rs.length cr]] w (PtQ (cs.map Ak.dat) ws cs.length w):=by
 have hgd:=Ak.chkS_good g.ck;have hl0:=hgd.l0;have hl6:=hgd.l1;rw [List.length_map] at hl0 hl6
 have tt:=fun k (hk : k < cs.length) v (hv : Below w.heap.size w v) => pftotal_any A ca cs Pp Ww Rr ps.length cp ws.length cw rs.length cr k v (h.cs.keep hv) g.ck hk
 have tb : ∀ k,k < cs.length → 0 ≤ Ch.tt (Ak.dAt (cs.map Ak.dat) k)∧Ch.tt (Ak.dAt (cs.map Ak.dat) k) ≤ 12000:=fun k hk => by
  have hck:=(Pf.ck_at g.ck (j:=k) (by rw [List.length_map];exact hk)).1;have hG:=Ck.chk_good (show Ck.chk (Ak.dAt (cs.map Ak.dat) k).1 (Ak.dAt (cs.map Ak.dat) k).2.1 (Ak.dAt (cs.map Ak.dat) k).2.2 = 0 from hck);have t0:=(Ck.tot_bd hG _ (Nat.le_refl _)).1;have t1:=(Ck.tot_bd hG _ (Nat.le_refl _)).2;have l1:=hG.len1;have la:=hG.last
  unfold Ch.tt
  omega
 have dv : ∀ k,k < cs.length → ∀ v,Calls Tryz.prog 112 #[.agg #[.int .i64 (Pf.iat (Pf.rat ws k).l k).1,.int .i64 (Pf.iat (Pf.rat ws k).l k).2],.agg #[.int .i64 (Ch.tt (Ak.dAt (cs.map Ak.dat) k)),.int .i64 1]] v fun e w' => e = .returned (.tuple #[.agg #[.int .i64 (Pf.dv (cs.map Ak.dat) ws k).1,.int .i64 (Pf.dv (cs.map Ak.dat) ws k).2.1],.int .i64 (Pf.dv (cs.map Ak.dat) ws k).2.2])∧Below v.heap.size v w':=fun k hk v => by
  have ho:=g.ok k k hk hk;have t:=tb k hk;exact Div_any _ _ _ _ v (by have:=ho.2.2.1;omega) (by have:=ho.2.2.2.1;omega) (by have:=ho.1;omega) (by have:=ho.2.1;omega) (by omega) (by omega) (by omega) (by omega)
 have hwl:=g.wl;have hrl:=g.rl;obtain ⟨cb,co,hA,-⟩:=h.cs.at_;obtain rfl:=hA hl0;obtain ⟨⟨wb,wo,hW,hwc⟩,hwa⟩:=h.ws;obtain rfl:=hW (by omega)
 have wc : ∀ k,k < cs.length → ∃ rb ro,w.cell? ⟨wb,wo + k,none⟩ = some (.slice (some ⟨rb,ro,none⟩) cs.length (Pf.rat ws k).cap)∧w.cell? ⟨rb,ro + k * 2,none⟩ = some (.int .i64 (Pf.iat (Pf.rat ws k).l k).1)∧w.cell? ⟨rb,ro + k * 2 + 1,none⟩ = some (.int .i64 (Pf.iat (Pf.rat ws k).l k).2):=fun k hk => by
  obtain ⟨rb,ro,hra,hrc⟩:=hwa k (by omega);have h1:=hwc k (by omega);have h2:=hrl k (by omega);rw [hra (by omega),h2] at h1;exact ⟨rb,ro,h1,hrc k (by omega)⟩
 rw [hwl] at tt ⊢
 generalize cs.map Ak.dat = D at *
 obtain ⟨n,hn⟩ : ∃ z,cs.length = z:=⟨_,rfl⟩;obtain ⟨np,hnp⟩ : ∃ z,ps.length = z:=⟨_,rfl⟩;obtain ⟨nr,hnr⟩ : ∃ z,rs.length = z:=⟨_,rfl⟩;rw [hnp,hnr] at tt ⊢;rw [hn] at tt dv wc hl0 hl6 ⊢;have TTT:=Lib.hid tt;have DVV:=Lib.hid dv;have WC:=Lib.hid wc;have WHA:=Lib.hid pfwhole_any;obtain ⟨i0,hi0,hz0,hz1,hz2⟩:=info_parts rowInfo;have HI:=Lib.hid hi0;have HI2:=Lib.hid hz0;have HI3:=Lib.hid hz1;have HI4:=Lib.hid hz2;clear tt dv wc hn hnp hnr hwl hrl hwc hwa hA hW h g hgd tb hi0 hz0 hz1 hz2
 unfold PtQ
 go_enter Tryz.func73,Tryz.ntmps73
 go_upto_region 2 with fail
 refine at_box1 (fun V hbb B0 hVs => ?_);have p0:=B0.c 0 rfl;(go_wp2_with fail)
 go_loopw [4,11] (fun s i v => ∃ (a : Nat),a ≤ n∧i = .int .i64 (a : Nat)∧Below w.heap.size w v∧BK v w.heap.size [.slice (some ⟨cb,co,none⟩) n ca,.slice Pp np cp,.slice (some ⟨wb,wo,none⟩) n cw,.slice Rr nr cr]∧v.ownsRow (w.heap.size + 1) 31 2 s a (Pf.prs ((List.range a).map (Pf.dp D ws)))∧(∀ x,x < a → (Pf.dv D ws x).2.2 = 0)) (fun _ i _ => n - (intOf i).toNat)
 case atStart => exact ⟨0,Nat.zero_le _,rfl,hbb,B0,World.ownsRow_nil _ _ _ _,fun x hx => absurd hx (by omega)⟩
 case round =>
  clear hbb B0 hVs p0;obtain ⟨a,han,rfl,hbb,B0,hO,hwz⟩:=hrel;have HWZ:=Lib.hid hwz;clear hwz
  by_cases ha : a < n
  ·have i1 : (a : Int) < (n : Int):=by omega
   have i2 : (0 : Int) ≤ (a : Int):=by omega
   obtain ⟨rb,ro,w0,w1,w2⟩:=WC.out a ha;have tt:=TTT.out a ha;have dv:=DVV.out a ha;obtain ⟨T,hT⟩ : ∃ T,(List.range a).map (Pf.dp D ws) = T:=⟨_,rfl⟩
   have hT2 : (List.range (a + 1)).map (Pf.dp D ws) = T ++ [((Pf.dv D ws a).1,(Pf.dv D ws a).2.1)]:=by
    rw [List.range_succ,List.map_append,hT]
    rfl
   have hTl : T.length = a:=by rw [← hT];simp
   rw [hT] at hO;obtain ⟨⟨x1,x2,x3⟩,hx⟩ : ∃ z,Pf.dv D ws a = z:=⟨_,rfl⟩;rw [hx] at dv hT2;dsimp only at dv hT2
   generalize Ch.tt (Ak.dAt D a) = tot at *
   generalize Pf.iat (Pf.rat ws a).l a = r at *
   obtain ⟨r1,r2⟩:=r
   generalize (Pf.rat ws a).cap = rc at *
   dsimp only at w1 w2 dv;have TT:=Lib.hid tt;have DV:=Lib.hid dv;have WHH:=Lib.hid (fun v => WHA.out tot v);have HT2:=Lib.hid hT2;have HTL:=Lib.hid hTl;have HX:=Lib.hid hx;clear tt dv hT hT2 hTl hx;have t0:=keepC hbb w0;have u0:=keepC hbb w1;have u1:=keepC hbb w2;clear w0 w1 w2
   go_upto_region 5 with fail
   refine at_worldQ (fun v => Below w.heap.size w v∧BK v w.heap.size [.slice (some ⟨cb,co,none⟩) n ca,.slice Pp np cp,.slice (some ⟨wb,wo,none⟩) n cw,.slice Rr nr cr]∧v.ownsRow (w.heap.size + 1) 31 2 _ a (Pf.prs T)∧v.cell? ⟨wb,wo + a,none⟩ = some (.slice (some ⟨rb,ro,none⟩) n rc)∧v.cell? ⟨rb,ro + a * 2,none⟩ = some (.int .i64 r1)∧v.cell? ⟨rb,ro + a * 2 + 1,none⟩ = some (.int .i64 r2)) ⟨hbb,B0,hO,t0,u0,u1⟩ (fun V hS => ?_);clear hbb B0 hO t0 u0 u1;obtain ⟨hbb,B0,hO,t0,u0,u1⟩:=hS;have p0:=B0.c 0 rfl;have p1:=B0.c 1 rfl;have p2:=B0.c 2 rfl;have p3:=B0.c 3 rfl
   go_cut [6,7] (fun t e v => ∃ pv : Nat,t = .pointer (some ⟨pv,0,none⟩)∧e = .int .i64 x3∧Below V.heap.size V v∧BK v pv [.int .i64 x1,.int .i64 x2])
   case first =>
    refine wp_region_held_drew (S:=(Below V.heap.size V)) (by kernel_rfl) ((Below.refl _ _).drew) (fun hHeld => ?_);refine at_anyH (Below V.heap.size V) hHeld (fun wa0 hNew => ?_);clear hHeld;have hHeld:=hNew;clear hNew;refine tkd 0 ?_;(try simp only [PPz]);refine tkm 1 rfl hHeld (fun w hSw => by have kp0:=keepC hSw p0;have kp1:=keepC hSw p1;have kp2:=keepC hSw p2;have kp3:=keepC hSw p3;have kt0:=keepC hSw t0;have ku0:=keepC hSw u0;have ku1:=keepC hSw u1;go_simp <;> with_reducible rfl) ?_;(try simp only [PPz]);refine tkd 2 ?_;refine tkd 3 ?_;(try simp only [PPz]);refine tkm 4 rfl hHeld (fun w hSw => by have kp0:=keepC hSw p0;have kp1:=keepC hSw p1;have kp2:=keepC hSw p2;have kp3:=keepC hSw p3;have kt0:=keepC hSw t0;have ku0:=keepC hSw u0;have ku1:=keepC hSw u1;go_simp <;> with_reducible rfl) ?_;(try simp only [PPz]);refine tkd 5 ?_;refine tkd 6 ?_;(try simp only [PPz]);refine tkm 7 rfl hHeld (fun w hSw => by have kp0:=keepC hSw p0;have kp1:=keepC hSw p1;have kp2:=keepC hSw p2;have kp3:=keepC hSw p3;have kt0:=keepC hSw t0;have ku0:=keepC hSw u0;have ku1:=keepC hSw u1;go_simp <;> with_reducible rfl) ?_;(try simp only [PPz]);refine tkm 8 rfl hHeld (fun w hSw => by have kp0:=keepC hSw p0;have kp1:=keepC hSw p1;have kp2:=keepC hSw p2;have kp3:=keepC hSw p3;have kt0:=keepC hSw t0;have ku0:=keepC hSw u0;have ku1:=keepC hSw u1;go_simp <;> with_reducible rfl) ?_;(try simp only [PPz]);refine tkd 9 ?_;(try simp only [PPz]);refine rdy2 10 16 rfl rfl (fun K hK => ?_) (fun K hK => ?_)
    ·
     go_simp;refine (TT.out _ (keepB hbb hHeld)).mono ?_;rintro e wa11 ⟨rfl,hb3⟩;(go_wp2_with fail);refine hK.out _ _ (keepB hHeld hb3) (fun hNew => ?_);replace hHeld:=hNew;clear hNew hK K hb3;(try simp only [PPz]);refine rdy2 11 16 rfl rfl (fun K hK => ?_) (fun K hK => ?_)
     ·
      go_simp;refine (WHH.out _).mono ?_;rintro e wa12 ⟨rfl,hb3⟩;(go_wp2_with fail);refine hK.out _ _ (keepB hHeld hb3) (fun hNew => ?_);replace hHeld:=hNew;clear hNew hK K hb3;(try simp only [PPz]);refine rdy2 12 16 rfl rfl (fun K hK => ?_) (fun K hK => ?_)
      ·
       go_simp;refine (DV.out _).mono ?_;rintro e wa13 ⟨rfl,hb3⟩;(go_wp2_with fail);refine hK.out _ _ (keepB hHeld hb3) (fun hNew => ?_);replace hHeld:=hNew;clear hNew hK K hb3;(try simp only [PPz]);refine tkd 13 ?_;refine tkd 14 ?_;refine tkd 15 ?_;(try simp only [PPz]);refine rdy1 16 rfl (fun K hK => ?_);go_simp;refine hK.out _ _ (below_al hHeld _) (fun hNew => ?_);have hm : V.heap.size ≤ wa13.heap.size:=hHeld.size;replace hHeld:=hNew;clear hNew hK K;(try simp only [PPz]);refine at_anyH (fun v => Below V.heap.size V v∧BK v wa13.heap.size [.int .i64 0,.int .i64 0]) ⟨hHeld,BK.new _ _ _⟩ (fun wa17 hS => ?_);clear hHeld;obtain ⟨hHeld,Bm⟩:=hS;refine rdy1 17 rfl (fun K hK => ?_);have n0:=Bm.c 0 rfl;have f0:=Bm.f 0 rfl;have n1:=Bm.c 1 rfl;have f1:=Bm.f 1 rfl;go_simp;clear n0 f0 n1 f1;refine hK.out _ _ (below_set (below_set hHeld (by omega) _) (by omega) _) (fun hNew => ?_);replace hHeld:=hNew;clear hNew hK K;(try simp only [PPz]);refine at_anyH (fun v => Below V.heap.size V v∧BK v wa13.heap.size [.int .i64 x1,.int .i64 x2]) ⟨hHeld,((Bm.set 0 _).set 1 _)⟩ (fun wa18 hS => ?_);clear hHeld Bm;obtain ⟨hHeld,Bm⟩:=hS;refine tkd 18 ?_;(try simp only [PPz]);refine wpAnyH_done (by kernel_rfl) ?_ _;(go_wp2_with fail)
       go_meet
       exact ⟨_,rfl,rfl,hHeld,Bm⟩
      ·
       go_simp;refine hK.out _ _ (below_al hHeld _) (fun hNew => ?_);have hm : V.heap.size ≤ wa12.heap.size:=hHeld.size;replace hHeld:=hNew;clear hNew hK K;(try simp only [PPz]);refine at_anyH (fun v => Below V.heap.size V v∧BK v wa12.heap.size [.int .i64 0,.int .i64 0]) ⟨hHeld,BK.new _ _ _⟩ (fun wa20 hS => ?_);clear hHeld;obtain ⟨hHeld,Bm⟩:=hS;refine rdy1 12 rfl (fun K hK => ?_);go_simp;refine (DV.out _).mono ?_;rintro e wa21 ⟨rfl,hb3⟩;(go_wp2_with fail);refine hK.out _ _ (keepB hHeld hb3) (fun hNew => ?_);replace Bm:=Bm.keep hb3;replace hHeld:=hNew;clear hNew hK K hb3;(try simp only [PPz]);refine tkd 13 ?_;refine tkd 14 ?_;refine tkd 15 ?_;(try simp only [PPz]);refine rdy1 17 rfl (fun K hK => ?_);have n0:=Bm.c 0 rfl;have f0:=Bm.f 0 rfl;have n1:=Bm.c 1 rfl;have f1:=Bm.f 1 rfl;go_simp;clear n0 f0 n1 f1;refine hK.out _ _ (below_set (below_set hHeld (by omega) _) (by omega) _) (fun hNew => ?_);replace hHeld:=hNew;clear hNew hK K;(try simp only [PPz]);refine at_anyH (fun v => Below V.heap.size V v∧BK v wa12.heap.size [.int .i64 x1,.int .i64 x2]) ⟨hHeld,((Bm.set 0 _).set 1 _)⟩ (fun wa25 hS => ?_);clear hHeld Bm;obtain ⟨hHeld,Bm⟩:=hS;refine tkd 18 ?_;(try simp only [PPz]);refine wpAnyH_done (by kernel_rfl) ?_ _;(go_wp2_with fail)
       go_meet
       exact ⟨_,rfl,rfl,hHeld,Bm⟩
     ·
      go_simp;refine hK.out _ _ (below_al hHeld _) (fun hNew => ?_);have hm : V.heap.size ≤ wa11.heap.size:=hHeld.size;replace hHeld:=hNew;clear hNew hK K;(try simp only [PPz]);refine at_anyH (fun v => Below V.heap.size V v∧BK v wa11.heap.size [.int .i64 0,.int .i64 0]) ⟨hHeld,BK.new _ _ _⟩ (fun wa27 hS => ?_);clear hHeld;obtain ⟨hHeld,Bm⟩:=hS;refine rdy1 11 rfl (fun K hK => ?_);go_simp;refine (WHH.out _).mono ?_;rintro e wa28 ⟨rfl,hb3⟩;(go_wp2_with fail);refine hK.out _ _ (keepB hHeld hb3) (fun hNew => ?_);replace Bm:=Bm.keep hb3;replace hHeld:=hNew;clear hNew hK K hb3;(try simp only [PPz]);refine rdy1 12 rfl (fun K hK => ?_);go_simp;refine (DV.out _).mono ?_;rintro e wa29 ⟨rfl,hb3⟩;(go_wp2_with fail);refine hK.out _ _ (keepB hHeld hb3) (fun hNew => ?_);replace Bm:=Bm.keep hb3;replace hHeld:=hNew;clear hNew hK K hb3;(try simp only [PPz]);refine tkd 13 ?_;refine tkd 14 ?_;refine tkd 15 ?_;(try simp only [PPz]);refine rdy1 17 rfl (fun K hK => ?_);have n0:=Bm.c 0 rfl;have f0:=Bm.f 0 rfl;have n1:=Bm.c 1 rfl;have f1:=Bm.f 1 rfl;go_simp;clear n0 f0 n1 f1;refine hK.out _ _ (below_set (below_set hHeld (by omega) _) (by omega) _) (fun hNew => ?_);replace hHeld:=hNew;clear hNew hK K;(try simp only [PPz]);refine at_anyH (fun v => Below V.heap.size V v∧BK v wa11.heap.size [.int .i64 x1,.int .i64 x2]) ⟨hHeld,((Bm.set 0 _).set 1 _)⟩ (fun wa33 hS => ?_);clear hHeld Bm;obtain ⟨hHeld,Bm⟩:=hS;refine tkd 18 ?_;(try simp only [PPz]);refine wpAnyH_done (by kernel_rfl) ?_ _;(go_wp2_with fail)
      go_meet
      exact ⟨_,rfl,rfl,hHeld,Bm⟩
    ·
     go_simp;refine hK.out _ _ (below_al hHeld _) (fun hNew => ?_);have hm : V.heap.size ≤ wa0.heap.size:=hHeld.size;replace hHeld:=hNew;clear hNew hK K;(try simp only [PPz]);refine at_anyH (fun v => Below V.heap.size V v∧BK v wa0.heap.size [.int .i64 0,.int .i64 0]) ⟨hHeld,BK.new _ _ _⟩ (fun wa35 hS => ?_);clear hHeld;obtain ⟨hHeld,Bm⟩:=hS;refine rdy1 10 rfl (fun K hK => ?_);go_simp;refine (TT.out _ (keepB hbb hHeld)).mono ?_;rintro e wa36 ⟨rfl,hb3⟩;(go_wp2_with fail);refine hK.out _ _ (keepB hHeld hb3) (fun hNew => ?_);replace Bm:=Bm.keep hb3;replace hHeld:=hNew;clear hNew hK K hb3;(try simp only [PPz]);refine rdy1 11 rfl (fun K hK => ?_);go_simp;refine (WHH.out _).mono ?_;rintro e wa37 ⟨rfl,hb3⟩;(go_wp2_with fail);refine hK.out _ _ (keepB hHeld hb3) (fun hNew => ?_);replace Bm:=Bm.keep hb3;replace hHeld:=hNew;clear hNew hK K hb3;(try simp only [PPz]);refine rdy1 12 rfl (fun K hK => ?_);go_simp;refine (DV.out _).mono ?_;rintro e wa38 ⟨rfl,hb3⟩;(go_wp2_with fail);refine hK.out _ _ (keepB hHeld hb3) (fun hNew => ?_);replace Bm:=Bm.keep hb3;replace hHeld:=hNew;clear hNew hK K hb3;(try simp only [PPz]);refine tkd 13 ?_;refine tkd 14 ?_;refine tkd 15 ?_;(try simp only [PPz]);refine rdy1 17 rfl (fun K hK => ?_);have n0:=Bm.c 0 rfl;have f0:=Bm.f 0 rfl;have n1:=Bm.c 1 rfl;have f1:=Bm.f 1 rfl;go_simp;clear n0 f0 n1 f1;refine hK.out _ _ (below_set (below_set hHeld (by omega) _) (by omega) _) (fun hNew => ?_);replace hHeld:=hNew;clear hNew hK K;(try simp only [PPz]);refine at_anyH (fun v => Below V.heap.size V v∧BK v wa0.heap.size [.int .i64 x1,.int .i64 x2]) ⟨hHeld,((Bm.set 0 _).set 1 _)⟩ (fun wa42 hS => ?_);clear hHeld Bm;obtain ⟨hHeld,Bm⟩:=hS;refine tkd 18 ?_;(try simp only [PPz]);refine wpAnyH_done (by kernel_rfl) ?_ _;(go_wp2_with fail)
     go_meet
     exact ⟨_,rfl,rfl,hHeld,Bm⟩
   case rest =>
    obtain ⟨pv,rfl,rfl,hb2,Bm⟩:=hcut;replace hbb:=keepB hbb hb2;replace B0:=B0.keep hb2;replace hO:=row_keep hO hb2;clear hb2 p0 p1 p2 p3 t0 u0 u1
    by_cases hz : x3 = 0
    ·subst hz
     go_upto_region 8 with fail
     refine at_worldQ (fun v => Below w.heap.size w v∧BK v w.heap.size [.slice (some ⟨cb,co,none⟩) n ca,.slice Pp np cp,.slice (some ⟨wb,wo,none⟩) n cw,.slice Rr nr cr]∧v.ownsRow (w.heap.size + 1) 31 2 _ a (Pf.prs T)∧BK v pv [.int .i64 x1,.int .i64 x2]) ⟨hbb,B0,hO,Bm⟩ (fun V8 hS => ?_);clear hbb B0 hO Bm;obtain ⟨hbb,B0,hO,Bm⟩:=hS;have m0:=Bm.c 0 rfl;have m1:=Bm.c 1 rfl;have hbs:=B0.lt;have hbz:=hbb.size
     have ha6 : a ≤ 6:=by omega
     go_wp2_with (at_builtin;refine wpList_append_lies _ rfl _ _ _ rfl (w.heap.size + 1) 31 i0 _ 2 16 Tryz.underlying68 HI.out HI2.out HI3.out HI4.out rfl (by omega) _ a (Pf.prs T) (by rfl) (World.ownsRow.alloc hO _) ⟨V8.heap.size,0,none⟩ 1 1 [.int .i64 x1,.int .i64 x2] (by rfl) (by rfl) (World.news_of_block (cs:=#[.int .i64 x1,.int .i64 x2]) (t:=31) (fr:=(0,0)) (heap_alloc_new V8 _)) (by simp [Value.oneCell']) (by omega) (by unfold maxLen;omega) (by omega) (by simp;omega) (V8.heap.size + 1) (by simp) ?_;intro g9 cap9 w9 hown1 hgrow hat hglt)
     all_goals
      (try go_wp2_with fail)
      go_roundw
      case rel =>
       refine ⟨a + 1,by omega,by go_num,(below_al hbb _).grown hgrow (by simp;omega) (fun j ej => by
        have:=(World.ownsRow.lt hO j ej).1
        omega),(B0.al _).grown hgrow (fun e => by
        have:=(World.ownsRow.lt hO w.heap.size e).1
        omega),?_,fun x hx => ?_⟩
       ·rw [HT2.out,Pf.prs_snoc]
        exact hown1
       ·by_cases e : x = a
        ·rw [e,HX.out]
        ·exact HWZ.out x (by omega)
      case measure => (simp [intOf] <;> omega)
    ·have x31 : (x3 == 0) = false:=by simp [hz]
     have x32 : (x3 != 0) = true:=by simp [hz]
     go_wp2_with fail
     go_ret2
     exact ⟨hbb,.inl ⟨a,ha,by rw [HX.out];exact hz,by rw [HX.out];rfl⟩⟩
  ·obtain rfl : a = n:=by omega
   have i1 : ¬ (a : Int) < (a : Int):=by omega
   obtain ⟨Ax,cx,rfl,-⟩:=row_cap hO;have hR:=(rsB_row hO (by simp)).mono (Nat.le_succ _) (Nat.le_refl _);have p0:=B0.c 0 rfl;clear hO B0;(go_wp2_with fail)
   go_ret2
   exact ⟨hbb,.inr ⟨HWZ.out,Ax,⟨cx,rfl⟩,hR⟩⟩
end Go.Proofs.YtogmfebphiglaaaGreat
namespace Go.Proofs.YtogmfebphiglaaaGreat
open Go.RowKit
namespace Pf
/-- A sum that has an answer is a ratio; otherwise it is out of range. -/
theorem sumF_is (mf : Rat × Rat → Int × Int × Int) : ∀ (L : List (Rat × Rat)),(∀ s ∈ L,((mf s).2.2 = 0∧Rp.Ok (mf s).1 (mf s).2.1) ∨ mf s = (0,0,16)) → ∀ a b,Rp.Ok a b →
 ((Pc.sumF mf L a b).2.2 = 0∧Rp.Ok (Pc.sumF mf L a b).1 (Pc.sumF mf L a b).2.1) ∨ Pc.sumF mf L a b = (0,0,16)
 | [],_,a,b,h => .inl ⟨rfl,h⟩
 | s :: L,hm,a,b,h => by
  have ih:=sumF_is mf L (fun x hx => hm x (List.mem_cons_of_mem _ hx))
  unfold Pc.sumF
  rcases hm s (List.mem_cons_self ..) with ⟨h1,h2⟩ | h1
  ·rw [if_pos h1]
   have hc:=Rp.ofQ_cases (Rp.q a b + Rp.q (mf s).1 (mf s).2.1);rw [← Rp.addS_ok h h2] at hc
   rcases hc with ⟨e,ok,-⟩ | e
   ·rw [if_pos e]
    exact ih _ _ ok
   ·rw [e]
    exact .inr rfl
  ·rw [h1]
   exact .inr rfl
theorem wv_is {D : List CkD} {ps : List PcR} (g : DvG D ps) {a b : Nat} (ha : a < D.length) (hb : b < ps.length) :
 ((wv D ps a b).2.2 = 0∧Rp.Ok (wv D ps a b).1 (wv D ps a b).2.1) ∨ wv D ps a b = (0,0,16):=by
 have hck:=(Pf.ck_at g.ck ha).1;have hG:=Ck.chk_good (show Ck.chk (Ak.dAt D a).1 (Ak.dAt D a).2.1 (Ak.dAt D a).2.2 = 0 from hck);refine sumF_is _ _ (fun s hs => ?_) 0 1 (by decide);obtain ⟨k,hk,rfl⟩:=List.mem_iff_getElem.1 hs;have hm:=Pc.mem_ends1 hk;rw [Pc.sat_lt hk] at hm;have h1:=(g.go b hb).fit _ hm.1;have h2:=(g.go b hb).fit _ hm.2;have hlt:=Pc.spans_of_good (g.go b hb) _ (List.getElem_mem hk)
 rcases Pc.wM_bd hG h1 h2 hlt with ⟨e1,e2,-⟩ | e
 ·exact .inl ⟨e1,e2⟩
 ·exact .inr e
end Pf
/-- What newSurvey hands back. -/
def NsQ (D : List CkD) (ps : List Pf.PcR) (A Pp : Option Addr) (n ca cp : Nat) (wp : Bool) (w : World) (e : Ending) (w' : World) : Prop:=Below w.heap.size w w' ∧
 ((∃ (a b : Nat) (s : Value),a < n∧b < n∧(Pf.wv D ps a b).2.2 ≠ 0∧e = .returned (.tuple #[s,.int .i64 (Pf.wv D ps a b).2.2])) ∨
   ((∀ a b,a < n → b < n → (Pf.wv D ps a b).2.2 = 0)∧∃ (g : Nat) (ws : List Pf.RwR),WsB w' w.heap.size w'.heap.size (some ⟨g,0,none⟩) ws∧ws.length = n∧(∀ k,k < n → (Pf.rat ws k).l = (List.range n).map (Pf.wp D ps k)) ∧
     ((wp = false∧e = .returned (.tuple #[.agg #[.slice A n ca,.slice Pp n cp,.slice (some ⟨g,0,none⟩) n n,.slice none 0 0],.int .i64 0])) ∨
      (wp = true∧((∃ (a : Nat) (s : Value),a < n∧(Pf.dv D ws a).2.2 ≠ 0∧e = .returned (.tuple #[s,.int .i64 (Pf.dv D ws a).2.2])) ∨
       ((∀ a,a < n → (Pf.dv D ws a).2.2 = 0)∧∃ (rA : Option Addr) (rc : Nat),e = .returned (.tuple #[.agg #[.slice A n ca,.slice Pp n cp,.slice (some ⟨g,0,none⟩) n n,.slice rA n rc],.int .i64 0])∧RsB w' w.heap.size w'.heap.size rA ((List.range n).map (Pf.dp D ws))))))))
theorem svG_of {cs : List CkR} {ps : List Pf.PcR} {ws : List Pf.RwR} {rs : List (Int × Int)} (g : DvG (cs.map Ak.dat) ps) (hz : ∀ a b,a < cs.length → b < cs.length → (Pf.wv (cs.map Ak.dat) ps a b).2.2 = 0) (hl : ws.length = cs.length) (hr : ∀ k,k < cs.length → (Pf.rat ws k).l = (List.range cs.length).map (Pf.wp (cs.map Ak.dat) ps k)) : SvG cs ps ws rs:=by
 have hpl:=g.pl;rw [List.length_map] at hpl;refine ⟨g.ck,hpl,hl,fun k hk => by rw [hr k (by omega)];simp,fun i j hi hj => ?_⟩
 have e : Pf.iat (Pf.rat ws i).l j = Pf.wp (cs.map Ak.dat) ps i j:=by
  rw [hr i hi]
  unfold Pf.iat
  simp [hj]
 rw [e];have h:=Pf.wv_is g (a:=i) (b:=j) (by rw [List.length_map];exact hi) (by omega)
 rcases h with h | h
 ·exact h.2
 ·have:=hz i j hi hj
  rw [h] at this;exact absurd this (by decide)
theorem pfsurvey_any (wp : Bool) (A Pp : Option Addr) (ca cp : Nat) (cs : List CkR) (ps : List Pf.PcR) (w : World) (h : IsCs w A cs) (hp : IsPs w Pp ps) (g0 : DvG (cs.map Ak.dat) ps) :
 Calls Tryz.prog 69 #[.slice A cs.length ca,.agg #[.slice Pp ps.length cp],.bool wp] w (NsQ (cs.map Ak.dat) ps A Pp cs.length ca cp wp w):=by
 have wo:=fun v (hv : Below w.heap.size w v) => pfworth_any A Pp ca cp cs ps v (h.keep hv) (hp.keep hv) g0
 have hpl:=g0.pl;rw [List.length_map] at hpl
 have pt:=fun (g : Nat) (ws : List Pf.RwR) v (hv : Below w.heap.size w v) (hws : IsWs v (some ⟨g,0,none⟩) ws) (hl : ws.length = cs.length) (hr : ∀ k,k < cs.length → (Pf.rat ws k).l = (List.range cs.length).map (Pf.wp (cs.map Ak.dat) ps k)) (hz : ∀ a b,a < cs.length → b < cs.length → (Pf.wv (cs.map Ak.dat) ps a b).2.2 = 0) =>
  (by have q:=pfparts_any A Pp (some ⟨g,0,none⟩) none ca cp cs.length 0 cs ps ws [] v ⟨h.keep hv,hp.keep hv,hws,⟨0,0,fun h => absurd h (by simp),fun k hk => absurd hk (by simp)⟩⟩ (svG_of g0 hz hl hr);rw [hl,List.length_nil] at q;exact q)
 rw [hpl] at wo pt ⊢
 generalize cs.map Ak.dat = D at *
 obtain ⟨n,hn⟩ : ∃ z,cs.length = z:=⟨_,rfl⟩;rw [hn] at wo pt ⊢;have WOO:=Lib.hid wo;have PTT:=Lib.hid pt;clear wo pt hn hpl h hp g0
 unfold NsQ
 go_enter Tryz.func69,Tryz.ntmps69
 go_upto_region 1 with fail
 refine at_box2 (fun V hbb B0 B1 hVs => ?_);have p0:=B0.c 0 rfl;(go_wp2_with fail);refine (WOO.out _ hbb).mono ?_;rintro e w1 ⟨hb,⟨a,b,ha,hb1,hne,rfl⟩ | ⟨hz,g,ws,rfl,hws,hl,hr⟩⟩
 ·clear p0 WOO PTT
  replace hbb:=keepB hbb hb;replace B1:=B1.keep hb;have r0:=B1.c 0 rfl;have r1:=B1.c 1 rfl;have r2:=B1.c 2 rfl;have r3:=B1.c 3 rfl;have g0:=B1.f 0 rfl;have g1:=B1.f 1 rfl;have g2:=B1.f 2 rfl;have g3:=B1.f 3 rfl;have HNE:=Lib.hid hne
  have e1 : ((Pf.wv D ps a b).2.2 == 0) = false:=by simp [hne]
  have e2 : ((Pf.wv D ps a b).2.2 != 0) = true:=by simp [hne]
  clear hne hb hVs;(go_wp2_with fail);exact bodyPost_ret (v:=.tuple #[.agg #[.slice none 0 0,.slice none 0 0,.slice none 0 0,.slice none 0 0],.int .i64 (Pf.wv D ps a b).2.2]) (by simp [results,Tryz.results69,go_sem,r0,r1,r2,r3]) rfl ⟨below_set (below_set (below_set (below_set hbb (by omega) _) (by omega) _) (by omega) _) (by omega) _,.inl ⟨a,b,_,ha,hb1,HNE.out,rfl⟩⟩
 ·clear p0 WOO
  replace hbb:=keepB hbb hb;replace B0:=B0.keep hb;replace B1:=B1.keep hb;have HZ:=Lib.hid hz;have HL:=Lib.hid hl;have HR:=Lib.hid hr;have p0:=B0.c 0 rfl;clear hb hz hl hr
  go_upto_region 5 with fail
  have hw1:=hbb.size;have hw2:=B1.lt;have hsz1:=hws.mono (show w.heap.size + 2 ≤ V.heap.size by omega) (Nat.le_refl _);clear hws;have hws:=hsz1;clear hsz1;refine at_worldQ (fun v => Below w.heap.size w v∧BK v (w.heap.size + 1) [.slice none 0 0,.slice none 0 0,.slice none 0 0,.slice none 0 0]∧WsB v (w.heap.size + 2) w1.heap.size (some ⟨g,0,none⟩) ws∧BK v w1.heap.size [.slice A n ca,.slice Pp n cp,.slice (some ⟨g,0,none⟩) n n,.slice none 0 0]) ⟨below_al hbb _,B1.al _,hws.keep (below_al (Below.refl _ _) _),BK.new _ _ _⟩ (fun V5 hS => ?_);clear hbb B0 B1 p0 hws;obtain ⟨hbb,B1,hws,B10⟩:=hS;obtain ⟨p10,hp10⟩ : ∃ z,w1.heap.size = z:=⟨_,rfl⟩;rw [hp10] at B10 hw1 hw2 hws ⊢;clear hp10
  cases wp with
  | false =>
   have q0:=B10.c 0 rfl;have q1:=B10.c 1 rfl;have q2:=B10.c 2 rfl;have q3:=B10.c 3 rfl;have r0:=B1.c 0 rfl;have r1:=B1.c 1 rfl;have r2:=B1.c 2 rfl;have r3:=B1.c 3 rfl;have g0:=B1.f 0 rfl;have g1:=B1.f 1 rfl;have g2:=B1.f 2 rfl;have g3:=B1.f 3 rfl;clear PTT;(go_wp2_with fail);have hgb:=((((GB.refl (fun k => k = w.heap.size + 1) V5).set (p:=w.heap.size + 1) (o:=0) (.inl rfl) (.slice A n ca)).set (p:=w.heap.size + 1) (o:=1) (.inl rfl) (.slice Pp n cp)).set (p:=w.heap.size + 1) (o:=2) (.inl rfl) (.slice (some ⟨g,0,none⟩) n n)).set (p:=w.heap.size + 1) (o:=3) (.inl rfl) (.slice none 0 0);exact bodyPost_ret (v:=.tuple #[.agg #[.slice A n ca,.slice Pp n cp,.slice (some ⟨g,0,none⟩) n n,.slice none 0 0],.int .i64 0]) (by simp [results,Tryz.results69,go_sem,r0,r1,r2,r3]) rfl ⟨below_set (below_set (below_set (below_set hbb (by omega) _) (by omega) _) (by omega) _) (by omega) _,.inr ⟨HZ.out,g,ws,(hws.gb hgb (fun k hk => by omega)).mono (by omega) (Nat.le_trans (Nat.le_of_lt B10.lt) hgb.size),HL.out,HR.out,rfl⟩⟩
  | true =>
   have q0:=B10.c 0 rfl;have q1:=B10.c 1 rfl;have q2:=B10.c 2 rfl;have q3:=B10.c 3 rfl;have pt:=PTT.out g ws V5 hbb hws.isWs HL.out HR.out HZ.out;have PT1:=Lib.hid pt;clear pt PTT
   unfold PtQ at PT1
   (go_wp2_with fail);refine PT1.out.mono ?_;rintro e w6 ⟨hb,⟨a,ha,hne,rfl⟩ | ⟨hdz,rA,rc,rfl,hrs⟩⟩
   ·have HNE:=Lib.hid hne
    have e1 : ((Pf.dv D ws a).2.2 == 0) = false:=by simp [hne]
    have e2 : ((Pf.dv D ws a).2.2 != 0) = true:=by simp [hne]
    replace hbb:=keepB hbb hb;replace hws:=hws.keep hb;replace B1:=B1.keep hb;replace B10:=B10.keep hb;clear hb q0 q1 q2 q3 hne PT1;have q3:=B10.c 3 rfl;have f3:=B10.f 3 rfl
    go_upto_region 7 with fail
    have hw6:=hbb.size;refine at_worldQ (fun v => Below w.heap.size w v∧BK v (w.heap.size + 1) [.slice none 0 0,.slice none 0 0,.slice none 0 0,.slice none 0 0]∧WsB v (w.heap.size + 2) p10 (some ⟨g,0,none⟩) ws∧BK v p10 [.slice A n ca,.slice Pp n cp,.slice (some ⟨g,0,none⟩) n n,.slice none 0 0]) ⟨below_set hbb (by omega) _,B1.far (by omega) _ _,hws.gb ((GB.refl (fun k => k = p10) w6).set (p:=p10) (o:=3) (.inl rfl) _) (fun k hk => .inr (by omega)),B10.set 3 _⟩ (fun V7 hS => ?_);clear hbb B1 hws B10 q3 f3;obtain ⟨hbb,B1,hws,B10⟩:=hS;have q0:=B10.c 0 rfl;have q1:=B10.c 1 rfl;have q2:=B10.c 2 rfl;have q3:=B10.c 3 rfl;have r0:=B1.c 0 rfl;have r1:=B1.c 1 rfl;have r2:=B1.c 2 rfl;have r3:=B1.c 3 rfl;have g0:=B1.f 0 rfl;have g1:=B1.f 1 rfl;have g2:=B1.f 2 rfl;have g3:=B1.f 3 rfl;have hV7:=hbb.size;(go_wp2_with fail);have hgb:=((((GB.refl (fun k => k = w.heap.size + 1) V7).set (p:=w.heap.size + 1) (o:=0) (.inl rfl) (.slice A n ca)).set (p:=w.heap.size + 1) (o:=1) (.inl rfl) (.slice Pp n cp)).set (p:=w.heap.size + 1) (o:=2) (.inl rfl) (.slice (some ⟨g,0,none⟩) n n)).set (p:=w.heap.size + 1) (o:=3) (.inl rfl) (.slice none 0 0);have hgs:=hgb.size;exact bodyPost_ret (v:=.tuple #[.agg #[.slice A n ca,.slice Pp n cp,.slice (some ⟨g,0,none⟩) n n,.slice none 0 0],.int .i64 (Pf.dv D ws a).2.2]) (by simp [results,Tryz.results69,go_sem,r0,r1,r2,r3]) rfl ⟨below_set (below_set (below_set (below_set hbb (by omega) _) (by omega) _) (by omega) _) (by omega) _,.inr ⟨HZ.out,g,ws,(hws.gb hgb (fun k hk => by omega)).mono (by omega) (by have:=B10.lt;omega),HL.out,HR.out,.inl ⟨a,ha,HNE.out,_,rfl⟩⟩⟩
   ·have HDZ:=Lib.hid hdz
    have hV5:=hbb.size;have hp5:=B10.lt;replace hrs:=hrs.mono (show p10 + 1 ≤ V5.heap.size by omega) (Nat.le_refl _);replace hbb:=keepB hbb hb;replace hws:=hws.keep hb;replace B1:=B1.keep hb;replace B10:=B10.keep hb;clear hb q0 q1 q2 q3 hdz PT1;have q3:=B10.c 3 rfl;have f3:=B10.f 3 rfl
    go_upto_region 7 with fail
    have hw6:=hbb.size;refine at_worldQ (fun v => Below w.heap.size w v∧BK v (w.heap.size + 1) [.slice none 0 0,.slice none 0 0,.slice none 0 0,.slice none 0 0]∧WsB v (w.heap.size + 2) p10 (some ⟨g,0,none⟩) ws∧BK v p10 [.slice A n ca,.slice Pp n cp,.slice (some ⟨g,0,none⟩) n n,.slice rA n rc]∧RsB v (p10 + 1) w6.heap.size rA ((List.range n).map (Pf.dp D ws))∧w6.heap.size ≤ v.heap.size) ⟨below_set hbb (by omega) _,B1.far (by omega) _ _,hws.gb ((GB.refl (fun k => k = p10) w6).set (p:=p10) (o:=3) (.inl rfl) _) (fun k hk => .inr (by omega)),B10.set 3 _,hrs.gb ((GB.refl (fun k => k = p10) w6).set (p:=p10) (o:=3) (.inl rfl) _) (fun k hk => .inl (by omega)),((GB.refl (fun k => k = p10) w6).set (p:=p10) (o:=3) (.inl rfl) _).size⟩ (fun V7 hS => ?_);clear hbb B1 hws B10 q3 f3 hrs;obtain ⟨hbb,B1,hws,B10,hrs,hs67⟩:=hS;have q0:=B10.c 0 rfl;have q1:=B10.c 1 rfl;have q2:=B10.c 2 rfl;have q3:=B10.c 3 rfl;have r0:=B1.c 0 rfl;have r1:=B1.c 1 rfl;have r2:=B1.c 2 rfl;have r3:=B1.c 3 rfl;have g0:=B1.f 0 rfl;have g1:=B1.f 1 rfl;have g2:=B1.f 2 rfl;have g3:=B1.f 3 rfl;have hV7:=hbb.size;(go_wp2_with fail);have hgb:=((((GB.refl (fun k => k = w.heap.size + 1) V7).set (p:=w.heap.size + 1) (o:=0) (.inl rfl) (.slice A n ca)).set (p:=w.heap.size + 1) (o:=1) (.inl rfl) (.slice Pp n cp)).set (p:=w.heap.size + 1) (o:=2) (.inl rfl) (.slice (some ⟨g,0,none⟩) n n)).set (p:=w.heap.size + 1) (o:=3) (.inl rfl) (.slice rA n rc);have hgs:=hgb.size;exact bodyPost_ret (v:=.tuple #[.agg #[.slice A n ca,.slice Pp n cp,.slice (some ⟨g,0,none⟩) n n,.slice rA n rc],.int .i64 0]) (by simp [results,Tryz.results69,go_sem,r0,r1,r2,r3]) rfl ⟨below_set (below_set (below_set (below_set hbb (by omega) _) (by omega) _) (by omega) _) (by omega) _,.inr ⟨HZ.out,g,ws,(hws.gb hgb (fun k hk => by omega)).mono (by omega) (by have:=B10.lt;omega),HL.out,HR.out,.inr ⟨HDZ.out,rA,⟨rc,rfl⟩,(hrs.gb hgb (fun k hk => .inl (by omega))).mono (by omega) (by omega)⟩⟩⟩
end Go.Proofs.YtogmfebphiglaaaGreat


