/- Package knife: readings. -/
import Derived.Test.YtogmfebphiglaaaGreatM46
import Derived.Test.YtogmfebphiglaaaGreatKnw
import Derived.Test.YtogmfebphiglaaaGreatKno
import Derived.Deep.CutBlock
import Derived.Deep.DeepCutAuto
namespace Go.Proofs.YtogmfebphiglaaaGreat
open Go.RowKit
namespace Kn
theorem bk_row {V : World} {B g n cap sz : Nat} {e : TypeId} {cs : List Value} (h : V.ownsRow B e sz (.slice (some ⟨g,0,none⟩) n cap) n cs) : BK V g cs:=by
 rcases h.2 with ⟨h1,_⟩ | ⟨g',cap',cur,h1,h2,h3,h4,h5,h6,h7⟩
 ·cases h1
 ·simp only [Value.slice.injEq,Option.some.injEq,Addr.mk.injEq,true_and,and_true] at h1
  obtain ⟨rfl,rfl⟩:=h1;refine ⟨(Array.getElem?_eq_some_iff.1 h3).1,fun j x hx => ⟨?_,?_⟩⟩
  ·have hj:=(List.getElem?_eq_some_iff.1 hx).1
   rw [h.1] at hj;rw [World.ownsRow.cellAt h j hj];exact hx
  ·unfold World.frozen?
   dsimp only
   rw [h3]
   simp
theorem cells4_at {L : List (Rat × Rat)} {k : Nat} (hk : k < L.length) : Pc.cells4 (L.take (k + 1)) = Pc.cells4 (L.take k) ++ Pf.spc (Pc.sat L k):=by
 rw [List.take_succ_eq_append_getElem hk,Pc.cells4_app]
 congr 1
 have e : Pc.sat L k = L[k]:=by unfold Pc.sat;simp [hk]
 rw [e]
 rfl
end Kn
theorem readInfo : (Tryz.prog.info? 168).map (fun i => (i.zero,i.size,i.bytes)) = some (some (.agg #[.int .i64 0,.int .i64 0,.int .i64 0,.int .i64 0]),4,32):=by kernel_rfl
/-- What readings gives: the readings, by where they are. -/
def RdQ (L : List (Rat × Rat)) (N : Nat) (w : World) (e : Ending) (w' : World) : Prop:=∃ (g cap : Nat) (M : List (Rat × Rat)),e = .returned (.slice (some ⟨g,0,none⟩) N cap)∧M.Perm L∧Pf.Srt M∧BK w' g (Pc.cells4 M)∧Below w.heap.size w w'
set_option linter.unusedSimpArgs false in
set_option maxHeartbeats 8000000 in
set_option maxRecDepth 100000 in
theorem knreadings_any (c d : CkR) (C : List Int) (N : Nat) (L : List (Rat × Rat)) (w : World) (hc : IsC w c) (hd : IsC w d) (hl1 : c.cuts.length ≤ 60) (hl2 : d.cuts.length ≤ 60) (hC : c.cuts ++ d.cuts = C) (hN : C.length = N) (h0 : 0 < N) (h12 : N ≤ 12) (hL : L.length = N) (hf : ∀ s ∈ L,Pc.Fit s.1)
 (hP : ∀ k,k < N → ∀ v,Below w.heap.size w v → Calls Tryz.prog 118 #[.agg #[.int .i64 c.len,.slice c.K c.cuts.length c.ck,.slice c.Z c.dens.length c.cz],.agg #[.int .i64 (Ck.at_ C k),.int .i64 1]] v fun e v' => e = .returned (.agg #[.int .i64 (Pc.sat L k).1.num,.int .i64 ((Pc.sat L k).1.den : Int)])∧Below v.heap.size v v')
 (hG : ∀ k,k < N → ∀ v,Below w.heap.size w v → Calls Tryz.prog 36 #[.agg #[.int .i64 c.len,.slice c.K c.cuts.length c.ck,.slice c.Z c.dens.length c.cz],.agg #[.int .i64 d.len,.slice d.K d.cuts.length d.ck,.slice d.Z d.dens.length d.cz],.agg #[.int .i64 (Pc.sat L k).1.num,.int .i64 ((Pc.sat L k).1.den : Int)]] v fun e v' => e = .returned (.tuple #[.agg #[.int .i64 (Pc.sat L k).2.num,.int .i64 ((Pc.sat L k).2.den : Int)],.int .i64 0])∧Below v.heap.size v v') :
 Calls Tryz.prog 80 #[.agg #[.int .i64 c.len,.slice c.K c.cuts.length c.ck,.slice c.Z c.dens.length c.cz],.agg #[.int .i64 d.len,.slice d.K d.cuts.length d.ck,.slice d.Z d.dens.length d.cz]] w (RdQ L N w):=by
 unfold RdQ
 obtain ⟨i0,hi0,hz0,hz1,hz2⟩:=info_parts readInfo;have HI:=Lib.hid hi0;have HI2:=Lib.hid hz0;have HI3:=Lib.hid hz1;have HI4:=Lib.hid hz2
 have hcat : Kn.cat1 [⟨c.K,c.ck,c.cuts⟩,⟨d.K,d.ck,d.cuts⟩] = C:=by rw [← hC];simp [Kn.cat1]
 have con:=fun v (hv : Below w.heap.size w v) p (hB : BK v p [.slice c.K c.cuts.length c.ck,.slice d.K d.cuts.length d.ck]) => knconcat_any (some ⟨p,0,none⟩) 2 [⟨c.K,c.ck,c.cuts⟩,⟨d.K,d.ck,d.cuts⟩] v ⟨p,0,fun _ => rfl,fun k hk => by
  have hk : k < 2:=hk
  have : k = 0 ∨ k = 1:=by omega
  rcases this with rfl | rfl
  ·exact hB.c 0 rfl
  ·exact hB.c 1 rfl⟩ (fun k hk => by
  have hk : k < 2:=hk
  have : k = 0 ∨ k = 1:=by omega
  rcases this with rfl | rfl
  ·exact (hc.keep hv).2.2.1
  ·exact (hd.keep hv).2.2.1) (by simp) (fun k hk => by
  have hk : k < 2:=hk
  have : k = 0 ∨ k = 1:=by omega
  rcases this with rfl | rfl
  ·exact hl1
  ·exact hl2)
 rw [hcat,hN] at con;have HTK:=Lib.hid (fun k (hk : k < N) => Kn.cells4_at (L:=L) (k:=k) (by omega))
 have HCT:=Lib.hid (fun k (hk : k < N) => (show (Kn.cel C)[k]? = some (.int .i64 (Ck.at_ C k)) by
  unfold Kn.cel Ck.at_
  simp [show k < C.length by omega]))
 have HLT:=Lib.hid (show L.take N = L from List.take_of_length_le (by omega));have ST:=Lib.hid (fun p cap v (hB : BK v p (Pc.cells4 L)) => knsort_any p N cap L v hL h12 hf hB);have CON:=Lib.hid con;have PZ:=Lib.hid hP;have GP:=Lib.hid hG;clear con hP hG hcat hC hN hc hd hl1 hl2 hL hf hi0 hz0 hz1 hz2
 simp only [List.length_cons,List.length_nil] at CON
 go_enter Tryz.func80,Tryz.ntmps80
 go_upto_region 1 with fail
 refine at_box2 (fun V hbb B0 B1 hVs => ?_);have a1:=B0.c 1 rfl;have a2:=B1.c 1 rfl;(go_wp2_with fail);refine (CON.out _ (below_al hbb _) _ (by have b:=BK.new V [.slice c.K c.cuts.length c.ck,.slice d.K d.cuts.length d.ck] 22;rw [hVs] at b;exact b)).mono ?_;rintro e w1 ⟨v,rfl,hb,hO⟩;have hbA:=keepB (below_al hbb _) hb;have B0':=(B0.al _).keep hb;have B1':=(B1.al _).keep hb;obtain ⟨gc,cc,rfl,hgc,hgl⟩:=World.ownsRow.form hO h0;have BC:=Kn.bk_row hO;clear hbb B0 B1 a1 a2 hO CON;have hsb:=hb.size
 simp only [World.size_alloc] at hsb hgc
 clear hb;obtain ⟨nb,hnb⟩ : ∃ z,w1.heap.size = z:=⟨_,rfl⟩;have hb0:=B0'.lt;have hb1:=B1'.lt;(go_wp2_with fail)
 go_loopw [5,18] (fun s i v => ∃ k : Nat,k ≤ N∧i = .int .i64 (k : Nat)∧Below w.heap.size w v∧v.ownsRow nb 168 4 s k (Pc.cells4 (L.take k))∧BK v w.heap.size [.int .i64 c.len,.slice c.K c.cuts.length c.ck,.slice c.Z c.dens.length c.cz]∧BK v (w.heap.size + 1) [.int .i64 d.len,.slice d.K d.cuts.length d.ck,.slice d.Z d.dens.length d.cz]∧BK v gc (Kn.cel C)∧nb ≤ v.heap.size) (fun _ i _ => N - (intOf i).toNat)
 case atStart => exact ⟨0,Nat.zero_le _,rfl,hbA,World.ownsRow_nil _ _ _ _,B0',B1',BC,by omega⟩
 case round =>
  clear hbA B0' B1' BC;obtain ⟨k,hk,rfl,hbb,hO,B0,B1,BC,hnw⟩:=hrel
  by_cases hkn : k < N
  ·have q0:=BC.c k (HCT.out k hkn)
   have pz:=PZ.out k hkn;have gp:=GP.out k hkn;have htk:=HTK.out k hkn
   unfold Pf.spc at htk
   obtain ⟨x,hx⟩ : ∃ z,Ck.at_ C k = z:=⟨_,rfl⟩;rw [hx] at q0 pz
   generalize (Pc.sat L k).1.num = n1 at *
   generalize ((Pc.sat L k).1.den : Int) = m1 at *
   generalize (Pc.sat L k).2.num = n2 at *
   generalize ((Pc.sat L k).2.den : Int) = m2 at *
   have HTK2:=Lib.hid htk;have GP2:=Lib.hid gp;have PZ2:=Lib.hid (fun v (hv : GB (fun _ => False) wr v) => pz v (hv.toBelow hbb (fun _ h => h.elim) (by have:=hbb.size;omega)))
   have i1 : (k : Int) < (N : Int):=by omega
   have i2 : (0 : Int) ≤ (k : Int):=by omega
   have b00:=B0.c 0 rfl;have b01:=B0.c 1 rfl;have b02:=B0.c 2 rfl;have hws:=hbb.size;clear pz gp htk hx PZ GP HTK
   go_upto_region 5 with fail
   go_cut [8] (fun x v => ∃ p : Nat,x = .pointer (some ⟨p,0,none⟩)∧wr.heap.size ≤ p∧BK v p [.int .i64 n1,.int .i64 m1]∧GB (fun _ => False) wr v)
   case first =>
    refine wp_region_held_drew (S:=(GB (fun _ => False) wr)) (by kernel_rfl) ((GB.refl _ _).drew) (fun hHeld => ?_);refine at_anyH (fun v => GB (fun _ => False) wr v) hHeld (fun wa0 hNew => ?_);clear hHeld;have hHeld:=hNew;clear hNew;refine tkm 0 rfl hHeld (fun w hSw => by have kb00:=hSw.cell (fun h => h) b00;have kb01:=hSw.cell (fun h => h) b01;have kb02:=hSw.cell (fun h => h) b02;go_simp <;> with_reducible rfl) ?_;(try simp only [PPz]);refine tkd 1 ?_;(try simp only [PPz]);refine rdy2 2 4 rfl rfl (fun K hK => ?_) (fun K hK => ?_)
    ·
     go_simp;refine (knwhole_any _ _).mono ?_;rintro e wa3 ⟨rfl,hb3⟩;(go_wp2_with fail);refine hK.out _ _ (hHeld.below hb3) (fun hNew => ?_);replace hHeld:=hNew;clear hNew hK K hb3;(try simp only [PPz]);refine rdy2 3 4 rfl rfl (fun K hK => ?_) (fun K hK => ?_)
     ·
      go_simp;refine (PZ2.out _ hHeld).mono ?_;rintro e wa4 ⟨rfl,hb3⟩;(go_wp2_with fail);refine hK.out _ _ (hHeld.below hb3) (fun hNew => ?_);replace hHeld:=hNew;clear hNew hK K hb3;(try simp only [PPz]);refine rdy1 4 rfl (fun K hK => ?_);go_simp;refine hK.out _ _ (hHeld.al _) (fun hNew => ?_);have hf : wr.heap.size ≤ wa4.heap.size:=hHeld.size;replace hHeld:=hNew;clear hNew hK K;(try simp only [PPz]);refine at_anyH (fun v => GB (fun _ => False) wr v∧BK v (wa4.heap.size) [.int .i64 0,.int .i64 0]) ⟨hHeld,BK.new _ _ _⟩ (fun wa5 hS => ?_);clear hHeld;obtain ⟨hHeld,Bf⟩:=hS;refine rdy1 5 rfl (fun K hK => ?_);have n0:=Bf.c 0 rfl;have f0:=Bf.f 0 rfl;have n1:=Bf.c 1 rfl;have f1:=Bf.f 1 rfl;go_simp;clear n0 f0 n1 f1;refine hK.out _ _ ((hHeld.set (.inr hf) _).set (.inr hf) _) (fun hNew => ?_);replace hHeld:=hNew;clear hNew hK K;(try simp only [PPz]);refine at_anyH (fun v => GB (fun _ => False) wr v∧BK v (wa4.heap.size) [.int .i64 n1,.int .i64 m1]) ⟨hHeld,((Bf.set 0 _).set 1 _)⟩ (fun wa6 hS => ?_);clear hHeld Bf;obtain ⟨hHeld,Bf⟩:=hS;refine wpAnyH_done (by kernel_rfl) ?_ _;(go_wp2_with fail)
      go_meet
      exact ⟨_,rfl,hf,Bf,hHeld⟩
     ·
      go_simp;refine hK.out _ _ (hHeld.al _) (fun hNew => ?_);have hf : wr.heap.size ≤ wa3.heap.size:=hHeld.size;replace hHeld:=hNew;clear hNew hK K;(try simp only [PPz]);refine at_anyH (fun v => GB (fun _ => False) wr v∧BK v (wa3.heap.size) [.int .i64 0,.int .i64 0]) ⟨hHeld,BK.new _ _ _⟩ (fun wa7 hS => ?_);clear hHeld;obtain ⟨hHeld,Bf⟩:=hS;refine rdy1 3 rfl (fun K hK => ?_);go_simp;refine (PZ2.out _ hHeld).mono ?_;rintro e wa8 ⟨rfl,hb3⟩;(go_wp2_with fail);refine hK.out _ _ (hHeld.below hb3) (fun hNew => ?_);replace Bf:=Bf.keep hb3;replace hHeld:=hNew;clear hNew hK K hb3;(try simp only [PPz]);refine rdy1 5 rfl (fun K hK => ?_);have n0:=Bf.c 0 rfl;have f0:=Bf.f 0 rfl;have n1:=Bf.c 1 rfl;have f1:=Bf.f 1 rfl;go_simp;clear n0 f0 n1 f1;refine hK.out _ _ ((hHeld.set (.inr hf) _).set (.inr hf) _) (fun hNew => ?_);replace hHeld:=hNew;clear hNew hK K;(try simp only [PPz]);refine at_anyH (fun v => GB (fun _ => False) wr v∧BK v (wa3.heap.size) [.int .i64 n1,.int .i64 m1]) ⟨hHeld,((Bf.set 0 _).set 1 _)⟩ (fun wa9 hS => ?_);clear hHeld Bf;obtain ⟨hHeld,Bf⟩:=hS;refine wpAnyH_done (by kernel_rfl) ?_ _;(go_wp2_with fail)
      go_meet
      exact ⟨_,rfl,hf,Bf,hHeld⟩
    ·
     go_simp;refine hK.out _ _ (hHeld.al _) (fun hNew => ?_);have hf : wr.heap.size ≤ wa0.heap.size:=hHeld.size;replace hHeld:=hNew;clear hNew hK K;(try simp only [PPz]);refine at_anyH (fun v => GB (fun _ => False) wr v∧BK v (wa0.heap.size) [.int .i64 0,.int .i64 0]) ⟨hHeld,BK.new _ _ _⟩ (fun wa10 hS => ?_);clear hHeld;obtain ⟨hHeld,Bf⟩:=hS;refine rdy1 2 rfl (fun K hK => ?_);go_simp;refine (knwhole_any _ _).mono ?_;rintro e wa11 ⟨rfl,hb3⟩;(go_wp2_with fail);refine hK.out _ _ (hHeld.below hb3) (fun hNew => ?_);replace Bf:=Bf.keep hb3;replace hHeld:=hNew;clear hNew hK K hb3;(try simp only [PPz]);refine rdy1 3 rfl (fun K hK => ?_);go_simp;refine (PZ2.out _ hHeld).mono ?_;rintro e wa12 ⟨rfl,hb3⟩;(go_wp2_with fail);refine hK.out _ _ (hHeld.below hb3) (fun hNew => ?_);replace Bf:=Bf.keep hb3;replace hHeld:=hNew;clear hNew hK K hb3;(try simp only [PPz]);refine rdy1 5 rfl (fun K hK => ?_);have n0:=Bf.c 0 rfl;have f0:=Bf.f 0 rfl;have n1:=Bf.c 1 rfl;have f1:=Bf.f 1 rfl;go_simp;clear n0 f0 n1 f1;refine hK.out _ _ ((hHeld.set (.inr hf) _).set (.inr hf) _) (fun hNew => ?_);replace hHeld:=hNew;clear hNew hK K;(try simp only [PPz]);refine at_anyH (fun v => GB (fun _ => False) wr v∧BK v (wa0.heap.size) [.int .i64 n1,.int .i64 m1]) ⟨hHeld,((Bf.set 0 _).set 1 _)⟩ (fun wa13 hS => ?_);clear hHeld Bf;obtain ⟨hHeld,Bf⟩:=hS;refine wpAnyH_done (by kernel_rfl) ?_ _;(go_wp2_with fail)
     go_meet
     exact ⟨_,rfl,hf,Bf,hHeld⟩
   case rest =>
    obtain ⟨p8,rfl,hp8,B8,hg8⟩:=hcut;have hbw:=hg8.toBelow (Below.refl _ _) (fun _ h => h.elim) (Nat.le_refl _);clear b00 b01 b02 q0 PZ2 hg8;replace hbb:=keepB hbb hbw;replace hO:=row_keep hO hbw;replace B0:=B0.keep hbw;replace B1:=B1.keep hbw;replace BC:=BC.keep hbw;have hsw:=hbw.size;clear hbw;have c0:=B0.c 0 rfl;have c1:=B0.c 1 rfl;have c2:=B0.c 2 rfl;have d0:=B1.c 0 rfl;have d1:=B1.c 1 rfl;have d2:=B1.c 2 rfl;have e0:=B8.c 0 rfl;have e1:=B8.c 1 rfl;(go_wp2_with fail);refine (GP2.out _ hbb).mono ?_;rintro e w6 ⟨rfl,hb⟩;clear c0 c1 c2 d0 d1 d2 e0 e1 GP2;replace hbb:=keepB hbb hb;replace hO:=row_keep hO hb;replace B0:=B0.keep hb;replace B1:=B1.keep hb;replace BC:=BC.keep hb;replace B8:=B8.keep hb;have hs6:=hb.size;clear hb
    go_upto_region 7 with fail
    refine at_worldQ (fun v => Below w.heap.size w v∧v.ownsRow nb 168 4 _ k (Pc.cells4 (L.take k))∧BK v w.heap.size [.int .i64 c.len,.slice c.K c.cuts.length c.ck,.slice c.Z c.dens.length c.cz]∧BK v (w.heap.size + 1) [.int .i64 d.len,.slice d.K d.cuts.length d.ck,.slice d.Z d.dens.length d.cz]∧BK v gc (Kn.cel C)∧BK v p8 [.int .i64 n1,.int .i64 m1]∧BK v w6.heap.size [.int .i64 n2,.int .i64 m2]∧nb ≤ v.heap.size) ⟨below_al hbb _,World.ownsRow.alloc hO _,B0.al _,B1.al _,BC.al _,B8.al _,BK.new _ _ _,by simp;omega⟩ (fun V7 hS => ?_);clear hbb hO B0 B1 BC B8;obtain ⟨hbb,hO,B0,B1,BC,B8,B9,hn7⟩:=hS;have e0:=B8.c 0 rfl;have e1:=B8.c 1 rfl;have f0:=B9.c 0 rfl;have f1:=B9.c 1 rfl
    have hrl:=fun j e => World.ownsRow.lt hO j e
    obtain ⟨T,hT⟩ : ∃ z,L.take k = z:=⟨_,rfl⟩;rw [hT] at hO;have HT:=Lib.hid hT;have hws:=hbb.size;clear hT
    go_wp2_with (at_builtin;go_loud (refine wpList_append_lies _ rfl _ _ _ rfl nb 168 i0 _ 4 32 Tryz.underlying136 HI.out HI2.out HI3.out HI4.out rfl (by omega) _ k (Pc.cells4 T) (by rfl) (World.ownsRow.alloc hO _) ⟨V7.heap.size,0,none⟩ 1 1 [.int .i64 n1,.int .i64 m1,.int .i64 n2,.int .i64 m2] (by rfl) (by rfl) (World.news_of_block (cs:=#[.int .i64 n1,.int .i64 m1,.int .i64 n2,.int .i64 m2]) (t:=168) (fr:=(0,0)) (heap_alloc_new V7 _)) (by simp [Value.oneCell']) (by omega) (by unfold maxLen;omega) (by omega) (by simp;omega) (V7.heap.size + 1) (by simp) ?_);intro g9 co W9 hown hgrow hat hglt)
    all_goals
     (try go_wp2_with fail)
     go_roundw
     case rel =>
      have ne : ∀ j,j < nb → (_ : Option Nat) ≠ some j:=fun j hj e => by have:=(hrl j e).1;omega
      exact ⟨k + 1,by omega,by go_num,(below_al hbb _).grown hgrow (by simp;omega) (fun j e => by have:=(hrl j e).1;omega),by rw [HTK2.out,HT.out];exact hown,(B0.al _).grown hgrow (ne _ (by omega)),(B1.al _).grown hgrow (ne _ (by omega)),(BC.al _).grown hgrow (ne _ (by omega)),by have:=hgrow.size;simp at this;omega⟩
     case measure => (simp [intOf] <;> omega)
  ·obtain rfl : k = N:=by omega
   have i2 : ¬ (k : Int) < (k : Int):=by omega
   rw [HLT.out] at hO;obtain ⟨g,cap,rfl,hg,hgl2⟩:=World.ownsRow.form hO h0;have BR:=Kn.bk_row hO;have hws:=hbb.size;clear hO B0 B1 BC;(go_wp2_with fail);refine (ST.out g cap _ BR).mono ?_;rintro e w3 ⟨rfl,M,hM,hS,hBM,hGB⟩;have hfin:=hGB.toBelow hbb (fun j hj => by omega) (by omega);clear hGB ST hbb BR;(go_wp2_with fail)
   go_ret
   exact ⟨g,cap,M,rfl,hM,hS,hBM,hfin⟩
end Go.Proofs.YtogmfebphiglaaaGreat


