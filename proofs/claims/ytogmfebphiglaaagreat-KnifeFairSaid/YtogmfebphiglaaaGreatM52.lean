/- Contract of the reference's split: a division of 128 bits, bit by bit. Contract of the reference's minus where the second number is the greater one: the difference goes round. The reference's Add of two valid ratios. The reference's Add and Sub, for all ratios, valid or not. Contract of the reference's Mul. The reference's Mul, for all ratios, valid or not. The reference's Value of a valid cake, and its Share. The reference's Value of a valid cake; Share. -/
import Derived.Test.YtogmfebphiglaaaGreatM24
import Derived.Deep.CutBlock
import Derived.Deep.DeepCutAuto
namespace Go.Proofs.YtogmfebphiglaaaGreat
open Go.RowKit
end Go.Proofs.YtogmfebphiglaaaGreat
namespace Go.Proofs.YtogmfebphiglaaaGreat
open Go.RowKit
end Go.Proofs.YtogmfebphiglaaaGreat


namespace Go.Proofs.YtogmfebphiglaaaGreat
open Go.RowKit
end Go.Proofs.YtogmfebphiglaaaGreat


namespace Go.Proofs.YtogmfebphiglaaaGreat
open Go.RowKit
end Go.Proofs.YtogmfebphiglaaaGreat


namespace Go.Proofs.YtogmfebphiglaaaGreat
open Go.RowKit
end Go.Proofs.YtogmfebphiglaaaGreat
namespace Go.Proofs.YtogmfebphiglaaaGreat
open Go.RowKit
end Go.Proofs.YtogmfebphiglaaaGreat


namespace Go.Proofs.YtogmfebphiglaaaGreat
open Go.RowKit
end Go.Proofs.YtogmfebphiglaaaGreat


namespace Go.Proofs.YtogmfebphiglaaaGreat
open Go.RowKit
set_option linter.unusedSimpArgs false in
set_option maxHeartbeats 8000000 in
set_option maxRecDepth 100000 in
theorem rshare_any (A : Option Addr) (ca : Nat) (cs : List CkR) (Q : Option Addr) (m cq k : Nat) (n : Int) (w : World) (h : IsCs w A cs) (hc : Ak.chkS (cs.map Ak.dat) 0 = 0) (hk : k < cs.length) (hn : n = (cs.length : Nat)) :
 Calls Tryz.prog 30 #[.agg #[.slice A cs.length ca,.slice Q m cq],.int .i64 (k : Nat)] w fun e w' => e = .returned (.agg #[.int .i64 (Ch.sh n (Ak.dAt (cs.map Ak.dat) k)).1,.int .i64 (Ch.sh n (Ak.dAt (cs.map Ak.dat) k)).2.1])∧Below w.heap.size w w':=by
 have hgd:=Ak.chkS_good hc;have hl1:=hgd.l0;have hl6:=hgd.l1;rw [List.length_map] at hl1 hl6;have hck:=hgd.all (Ak.dat (Ak.cat cs k)) (List.mem_map_of_mem (Ak.cat_mem hk));have hG:=Ck.chk_good (show Ck.chk (Ak.cat cs k).len (Ak.cat cs k).cuts (Ak.cat cs k).dens = 0 from hck)
 have wh:=fun v (hv : Below w.heap.size w v) => rWhole_any (Ak.cat cs k).len (Ak.cat cs k).K (Ak.cat cs k).cuts (Ak.cat cs k).ck (Ak.cat cs k).Z (Ak.cat cs k).dens (Ak.cat cs k).cz v ((h.all _ (Ak.cat_mem hk)).keep hv) hG
 rw [Ak.dAt_map cs hk];have t0:=(Ck.tot_bd hG _ (Nat.le_refl _)).1;have t1:=(Ck.tot_bd hG _ (Nat.le_refl _)).2;have l1:=hG.len1;have la:=hG.last;have hf : Ch.sh n (Ak.dat (Ak.cat cs k)) = Rp.makeS (Ck.tot (Ak.cat cs k).cuts (Ak.cat cs k).dens (Ak.cat cs k).dens.length) n:=rfl;rw [hf]
 have t2 : Ck.tot (Ak.cat cs k).cuts (Ak.cat cs k).dens (Ak.cat cs k).dens.length ≤ 12000:=by omega
 clear hf la l1 t1 hG hck hgd
 generalize Ck.tot (Ak.cat cs k).cuts (Ak.cat cs k).dens (Ak.cat cs k).dens.length = T at *
 have mk:=fun v => rMake_any T n (by omega) (by omega) (by omega) (by omega) v
 generalize Rp.makeS T n = M at *
 obtain ⟨M1,M2,M3⟩:=M;dsimp only at mk ⊢;obtain ⟨bb,oo,hA,hcl⟩:=h.at_;obtain rfl:=hA (by omega);obtain ⟨q0,q1,q2⟩:=hcl k hk
 generalize Ak.cat cs k = c at *
 obtain ⟨clen,cK,ccuts,cck,cZ,cdens,ccz⟩:=c
 dsimp only at *
 obtain ⟨lk,hlk⟩ : ∃ z,ccuts.length = z:=⟨_,rfl⟩;obtain ⟨lz,hlz⟩ : ∃ z,cdens.length = z:=⟨_,rfl⟩;rw [hlk,hlz] at wh;rw [hlk] at q1;rw [hlz] at q2;obtain ⟨nc,hnc⟩ : ∃ z,cs.length = z:=⟨_,rfl⟩;rw [hnc] at hn hk ⊢;subst hn
 have i1 : (k : Int) < (nc : Int):=by omega
 have i0 : (0 : Int) ≤ (k : Int):=by omega
 have WH:=Lib.hid wh;have MK:=Lib.hid mk;clear wh mk hlk hlz hnc hcl hA h hc t0 t2 hl1 hl6
 go_enter Tryz.func30,Tryz.ntmps30
 go_upto_region 1 with fail
 refine at_box2 (fun V hbb B0 B1 hVs => ?_);have p0:=B0.c 0 rfl;have k0:=keepC hbb q0;have k1:=keepC hbb q1;have k2:=keepC hbb q2;refine wp_region_noPanic ?_;refine wp_region_held_drew (S:=(Below V.heap.size V)) (by kernel_rfl) ((Below.refl _ _).drew) (fun hHeld => ?_);refine at_anyH (Below V.heap.size V) hHeld (fun ws0 hNew => ?_);clear hHeld;have hHeld:=hNew;clear hNew;refine tkd 0 ?_;(try simp only [PPz]);refine tkm 1 rfl hHeld (fun w hSw => by have kp0:=keepC hSw p0;have kk0:=keepC hSw k0;have kk1:=keepC hSw k1;have kk2:=keepC hSw k2;go_simp <;> with_reducible rfl) ?_;(try simp only [PPz]);refine tkd 2 ?_;refine tkd 3 ?_;(try simp only [PPz]);refine tkm 4 rfl hHeld (fun w hSw => by have kp0:=keepC hSw p0;have kk0:=keepC hSw k0;have kk1:=keepC hSw k1;have kk2:=keepC hSw k2;go_simp <;> with_reducible rfl) ?_;(try simp only [PPz]);refine tkd 6 ?_;(try simp only [PPz]);refine tkm 7 rfl hHeld (fun w hSw => by have kp0:=keepC hSw p0;have kk0:=keepC hSw k0;have kk1:=keepC hSw k1;have kk2:=keepC hSw k2;go_simp <;> with_reducible rfl) ?_;(try simp only [PPz]);refine tkd 8 ?_;(try simp only [PPz]);refine rdy2 5 13 rfl rfl (fun K hK => ?_) (fun K hK => ?_)
 ·
  go_simp;refine (WH.out _ (keepB hbb hHeld)).mono ?_;rintro e ws9 ⟨rfl,hb3⟩;(go_wp2_with fail);refine hK.out _ _ (keepB hHeld hb3) (fun hNew => ?_);replace hHeld:=hNew;clear hNew hK K hb3;(try simp only [PPz]);refine rdy2 9 13 rfl rfl (fun K hK => ?_) (fun K hK => ?_)
  ·
   go_simp;refine (MK.out _).mono ?_;rintro e ws10 ⟨rfl,hb3⟩;(go_wp2_with fail);refine hK.out _ _ (keepB hHeld hb3) (fun hNew => ?_);replace hHeld:=hNew;clear hNew hK K hb3;(try simp only [PPz]);refine tkd 10 ?_;refine tkd 11 ?_;refine tkd 12 ?_;(try simp only [PPz]);refine rdy1 13 rfl (fun K hK => ?_);go_simp;refine hK.out _ _ (below_al hHeld _) (fun hNew => ?_);have hm : V.heap.size ≤ ws10.heap.size:=hHeld.size;replace hHeld:=hNew;clear hNew hK K;(try simp only [PPz]);refine at_anyH (fun v => Below V.heap.size V v∧BK v ws10.heap.size [.int .i64 0,.int .i64 0]) ⟨hHeld,BK.new _ _ _⟩ (fun ws14 hS => ?_);clear hHeld;obtain ⟨hHeld,Bm⟩:=hS;refine rdy1 14 rfl (fun K hK => ?_);have n0:=Bm.c 0 rfl;have f0:=Bm.f 0 rfl;have n1:=Bm.c 1 rfl;have f1:=Bm.f 1 rfl;go_simp;clear n0 f0 n1 f1;refine hK.out _ _ (below_set (below_set hHeld (by omega) _) (by omega) _) (fun hNew => ?_);replace hHeld:=hNew;clear hNew hK K;(try simp only [PPz]);refine at_anyH (fun v => Below V.heap.size V v∧BK v ws10.heap.size [.int .i64 M1,.int .i64 M2]) ⟨hHeld,((Bm.set 0 _).set 1 _)⟩ (fun ws15 hS => ?_);clear hHeld Bm;obtain ⟨hHeld,Bm⟩:=hS;refine tkd 15 ?_;(try simp only [PPz]);refine wpAnyH_done (by kernel_rfl) ?_ _;refine NoPanic.normal ?_;have hbb2:=keepB hbb hHeld;have B1b:=B1.keep hHeld;have r0:=B1b.c 0 rfl;have r1:=B1b.c 1 rfl;have g0:=B1b.f 0 rfl;have g1:=B1b.f 1 rfl;have m0:=Bm.c 0 rfl;have m1:=Bm.c 1 rfl;(go_wp2_with fail);exact bodyPost_ret (v:=.agg #[.int .i64 M1,.int .i64 M2]) (by simp [results,Tryz.results30,go_sem,r0,r1]) rfl ⟨rfl,below_set (below_set hbb2 (by omega) _) (by omega) _⟩
  ·
   go_simp;refine hK.out _ _ (below_al hHeld _) (fun hNew => ?_);have hm : V.heap.size ≤ ws9.heap.size:=hHeld.size;replace hHeld:=hNew;clear hNew hK K;(try simp only [PPz]);refine at_anyH (fun v => Below V.heap.size V v∧BK v ws9.heap.size [.int .i64 0,.int .i64 0]) ⟨hHeld,BK.new _ _ _⟩ (fun ws17 hS => ?_);clear hHeld;obtain ⟨hHeld,Bm⟩:=hS;refine rdy1 9 rfl (fun K hK => ?_);go_simp;refine (MK.out _).mono ?_;rintro e ws18 ⟨rfl,hb3⟩;(go_wp2_with fail);refine hK.out _ _ (keepB hHeld hb3) (fun hNew => ?_);replace Bm:=Bm.keep hb3;replace hHeld:=hNew;clear hNew hK K hb3;(try simp only [PPz]);refine tkd 10 ?_;refine tkd 11 ?_;refine tkd 12 ?_;(try simp only [PPz]);refine rdy1 14 rfl (fun K hK => ?_);have n0:=Bm.c 0 rfl;have f0:=Bm.f 0 rfl;have n1:=Bm.c 1 rfl;have f1:=Bm.f 1 rfl;go_simp;clear n0 f0 n1 f1;refine hK.out _ _ (below_set (below_set hHeld (by omega) _) (by omega) _) (fun hNew => ?_);replace hHeld:=hNew;clear hNew hK K;(try simp only [PPz]);refine at_anyH (fun v => Below V.heap.size V v∧BK v ws9.heap.size [.int .i64 M1,.int .i64 M2]) ⟨hHeld,((Bm.set 0 _).set 1 _)⟩ (fun ws22 hS => ?_);clear hHeld Bm;obtain ⟨hHeld,Bm⟩:=hS;refine tkd 15 ?_;(try simp only [PPz]);refine wpAnyH_done (by kernel_rfl) ?_ _;refine NoPanic.normal ?_;have hbb2:=keepB hbb hHeld;have B1b:=B1.keep hHeld;have r0:=B1b.c 0 rfl;have r1:=B1b.c 1 rfl;have g0:=B1b.f 0 rfl;have g1:=B1b.f 1 rfl;have m0:=Bm.c 0 rfl;have m1:=Bm.c 1 rfl;(go_wp2_with fail);exact bodyPost_ret (v:=.agg #[.int .i64 M1,.int .i64 M2]) (by simp [results,Tryz.results30,go_sem,r0,r1]) rfl ⟨rfl,below_set (below_set hbb2 (by omega) _) (by omega) _⟩
 ·
  go_simp;refine hK.out _ _ (below_al hHeld _) (fun hNew => ?_);have hm : V.heap.size ≤ ws0.heap.size:=hHeld.size;replace hHeld:=hNew;clear hNew hK K;(try simp only [PPz]);refine at_anyH (fun v => Below V.heap.size V v∧BK v ws0.heap.size [.int .i64 0,.int .i64 0]) ⟨hHeld,BK.new _ _ _⟩ (fun ws24 hS => ?_);clear hHeld;obtain ⟨hHeld,Bm⟩:=hS;refine rdy1 5 rfl (fun K hK => ?_);go_simp;refine (WH.out _ (keepB hbb hHeld)).mono ?_;rintro e ws25 ⟨rfl,hb3⟩;(go_wp2_with fail);refine hK.out _ _ (keepB hHeld hb3) (fun hNew => ?_);replace Bm:=Bm.keep hb3;replace hHeld:=hNew;clear hNew hK K hb3;(try simp only [PPz]);refine rdy1 9 rfl (fun K hK => ?_);go_simp;refine (MK.out _).mono ?_;rintro e ws26 ⟨rfl,hb3⟩;(go_wp2_with fail);refine hK.out _ _ (keepB hHeld hb3) (fun hNew => ?_);replace Bm:=Bm.keep hb3;replace hHeld:=hNew;clear hNew hK K hb3;(try simp only [PPz]);refine tkd 10 ?_;refine tkd 11 ?_;refine tkd 12 ?_;(try simp only [PPz]);refine rdy1 14 rfl (fun K hK => ?_);have n0:=Bm.c 0 rfl;have f0:=Bm.f 0 rfl;have n1:=Bm.c 1 rfl;have f1:=Bm.f 1 rfl;go_simp;clear n0 f0 n1 f1;refine hK.out _ _ (below_set (below_set hHeld (by omega) _) (by omega) _) (fun hNew => ?_);replace hHeld:=hNew;clear hNew hK K;(try simp only [PPz]);refine at_anyH (fun v => Below V.heap.size V v∧BK v ws0.heap.size [.int .i64 M1,.int .i64 M2]) ⟨hHeld,((Bm.set 0 _).set 1 _)⟩ (fun ws30 hS => ?_);clear hHeld Bm;obtain ⟨hHeld,Bm⟩:=hS;refine tkd 15 ?_;(try simp only [PPz]);refine wpAnyH_done (by kernel_rfl) ?_ _;refine NoPanic.normal ?_;have hbb2:=keepB hbb hHeld;have B1b:=B1.keep hHeld;have r0:=B1b.c 0 rfl;have r1:=B1b.c 1 rfl;have g0:=B1b.f 0 rfl;have g1:=B1b.f 1 rfl;have m0:=Bm.c 0 rfl;have m1:=Bm.c 1 rfl;(go_wp2_with fail);exact bodyPost_ret (v:=.agg #[.int .i64 M1,.int .i64 M2]) (by simp [results,Tryz.results30,go_sem,r0,r1]) rfl ⟨rfl,below_set (below_set hbb2 (by omega) _) (by omega) _⟩
end Go.Proofs.YtogmfebphiglaaaGreat


