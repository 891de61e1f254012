/- Package knife: one knife as a function on lists. Plain mathematics. Package ask's Value, Mark, Open, Total. Package ask's Replay. -/
import Derived.Test.YtogmfebphiglaaaGreatAskpu
namespace Go.Proofs.YtogmfebphiglaaaGreat
open Go.RowKit
namespace Kn
open Ck Ch
section
variable (D : List CkD) (n len a b : Int)
/-- The mark for the share of an agent, and its query. -/
def mkQ (j : Nat) : Int × Int × Int:=Ak.kS (Ak.dAt D j) a b (sh n (Ak.dAt D j)).1 (sh n (Ak.dAt D j)).2.1
def qM (j : Nat) : Qr:=⟨(j : Nat),2,a,b,(sh n (Ak.dAt D j)).1,(sh n (Ak.dAt D j)).2.1,(mkQ D n a b j).1,(mkQ D n a b j).2.1⟩
/-- Who says stop, and where. -/
def bst : List Nat → Nat × Int × Int → Nat × Int × Int
 | [],s => s
 | j :: r,s => bst r (if Rp.q (mkQ D n a b j).1 (mkQ D n a b j).2.1 < Rp.q s.2.1 s.2.2 then (j,(mkQ D n a b j).1,(mkQ D n a b j).2.1) else s)
/-- All marks that may be asked for are there. -/
structure KFit (l : List Nat) : Prop where
 lt : ∀ j ∈ l,j < D.length
 mark : ∀ j ∈ l,(mkQ D n a b j).2.2 = 0∧Rp.Ok (mkQ D n a b j).1 (mkQ D n a b j).2.1
end
/-- Where the knife is, who is left, the log, and who has had a piece. -/
structure St where
 a : Int
 b : Int
 l : List Nat
 L : List Qr
 o : List Nat
section
variable (D : List CkD) (n len : Int)
def stp (s : St) : Nat × Int × Int:=if s.l.length = 1 then (s.l.getD 0 0,len,1) else bst D n s.a s.b s.l (s.l.getD 0 0,len,1)
def slg (s : St) : List Qr:=if s.l.length = 1 then s.L else s.L ++ s.l.map (qM D n s.a s.b)
def nxt (s : St) : St:=⟨(stp D n len s).2.1,(stp D n len s).2.2,s.l.eraseIdx (s.l.idxOf (stp D n len s).1),slg D n s,s.o ++ [(stp D n len s).1]⟩
def sts : Nat → St
 | 0 => ⟨0,1,List.range D.length,[],[]⟩
 | k + 1 => nxt D n len (sts k)
end
section
variable {D : List CkD} {n len a b : Int} {l : List Nat}
theorem chk_up {m : Nat} (h : Ak.chkS D 0 = 0) (hm : m ≤ 2000) : Ak.chkS D m = 0 :=
 Ak.good_chkS ⟨(Ak.chkS_good h).l0,(Ak.chkS_good h).l1,hm,(Ak.chkS_good h).all,(Ak.chkS_good h).same⟩
theorem ans_M {j : Nat} (hj : j < D.length) (s1 s2 : Int) : Ak.ansS D ⟨(j : Nat),2,a,b,s1,s2,0,0⟩ = Ak.kS (Ak.dAt D j) a b s1 s2:=by
 unfold Ak.ansS
 rw [if_pos ⟨Int.natCast_nonneg _,by dsimp only;omega⟩,if_neg (show ¬ (2 : Int) = 1 by decide),if_pos rfl]
 rfl
theorem put_M (F : KFit D n a b l) {j m : Nat} (hj : j ∈ l) (hc : Ak.chkS D 0 = 0) (hm : m < 2000) :
 Ak.putE D m ⟨(j : Nat),2,a,b,(sh n (Ak.dAt D j)).1,(sh n (Ak.dAt D j)).2.1,0,0⟩ = 0∧Ak.told D ⟨(j : Nat),2,a,b,(sh n (Ak.dAt D j)).1,(sh n (Ak.dAt D j)).2.1,0,0⟩ = qM D n a b j:=by
 have h1:=ans_M (a:=a) (b:=b) (F.lt j hj) (sh n (Ak.dAt D j)).1 (sh n (Ak.dAt D j)).2.1
 constructor
 ·unfold Ak.putE
  rw [if_neg (by rw [chk_up hc (by omega)];simp),h1,if_neg (by have:=(F.mark j hj).1;unfold mkQ at this;rw [this];simp),if_neg (by omega)]
 ·unfold Ak.told
  rw [h1]
  rfl
theorem bst_app (r : List Nat) (j : Nat) : ∀ s,bst D n a b (r ++ [j]) s = (if Rp.q (mkQ D n a b j).1 (mkQ D n a b j).2.1 < Rp.q (bst D n a b r s).2.1 (bst D n a b r s).2.2 then (j,(mkQ D n a b j).1,(mkQ D n a b j).2.1) else bst D n a b r s):=by
 induction r with
 | nil => intro s;rfl
 | cons x r ih => intro s;exact ih _
/-- The best of the first agents. -/
def bsk (D : List CkD) (n a b : Int) (l : List Nat) (s : Nat × Int × Int) (j : Nat) : Nat × Int × Int:=bst D n a b (l.take j) s
theorem bsk_succ {s : Nat × Int × Int} {j : Nat} (hj : j < l.length) : bsk D n a b l s (j + 1) = (if Rp.q (mkQ D n a b (l.getD j 0)).1 (mkQ D n a b (l.getD j 0)).2.1 < Rp.q (bsk D n a b l s j).2.1 (bsk D n a b l s j).2.2 then (l.getD j 0,(mkQ D n a b (l.getD j 0)).1,(mkQ D n a b (l.getD j 0)).2.1) else bsk D n a b l s j):=by
 unfold bsk
 have e : l.take (j + 1) = l.take j ++ [l.getD j 0]:=by
  rw [List.take_add_one]
  simp [hj]
 rw [e,bst_app]
end
end Kn
end Go.Proofs.YtogmfebphiglaaaGreat


set_option linter.unusedSimpArgs false
set_option maxHeartbeats 8000000
set_option maxRecDepth 100000
namespace Go.Proofs.YtogmfebphiglaaaGreat
open Go.RowKit
theorem askMark_any (A : Option Addr) (ca : Nat) (cs : List CkR) (Q : Option Addr) (qs : List Qr) (cq : Nat) (ag a b c d : Int) (w : World) (h : IsCs w A cs) (hq : IsQs w Q qs) (h1 : I64 ag) (h2 : I64 a) (h3 : I64 b) (h4 : I64 c) (h5 : I64 d) :
 Calls Tryz.prog 105 #[.agg #[.slice A cs.length ca,.slice Q qs.length cq],.int .i64 ag,.agg #[.int .i64 a,.int .i64 b],.agg #[.int .i64 c,.int .i64 d]] w (PutQ (cs.map Ak.dat) qs ⟨ag,2,a,b,c,d,0,0⟩ w):=by
 have PU:=Lib.hid (fun v (hv : Below w.heap.size w v) => put_any A ca cs Q qs cq ag 2 a b c d 0 0 v (h.keep hv) (hq.keep hv) ⟨h1,show (0 : Int) ≤ 2∧(2 : Int) ≤ 255 by decide,h2,h3,h4,h5,show I64 0 from ⟨by decide,by decide⟩,show I64 0 from ⟨by decide,by decide⟩⟩)
 unfold PutQ at PU ⊢
 generalize Ak.putE (cs.map Ak.dat) qs.length ⟨ag,2,a,b,c,d,0,0⟩ = z at *
 generalize Ak.told (cs.map Ak.dat) ⟨ag,2,a,b,c,d,0,0⟩ = tq at *
 clear h hq h1 h2 h3 h4 h5
 go_enter Tryz.func105,Tryz.ntmps105
 go_upto_region 1 with fail
 refine at_box5 (fun V hbb B0 B1 B2 B3 B4 hVs => ?_);have p0:=B0.c 0 rfl;have p1:=B0.c 1 rfl;have y0:=B1.c 0 rfl;have y1:=B1.c 1 rfl;have z0:=B2.c 0 rfl;have z1:=B2.c 1 rfl;(go_wp2_with fail);refine (PU.out _ hbb).mono ?_;rintro e w1 ⟨hb,hres⟩;clear p0 p1 y0 y1 z0 z1;replace B3:=B3.keep hb;replace B4:=B4.keep hb
 rcases hres with ⟨hne,rfl⟩ | ⟨he,A2,ca2,l,Q2,cq2,rfl,hdat,hfd⟩
 ·
  have r0:=B3.c 0 rfl;have r1:=B3.c 1 rfl;have f0:=B3.f 0 rfl;have f1:=B3.f 1 rfl;have t0:=B4.c 0 rfl;have t1:=B4.c 1 rfl;have g0:=B4.f 0 rfl;have g1:=B4.f 1 rfl;(go_wp2_with fail);exact bodyPost_ret (v:=.tuple #[.agg #[.slice none 0 0,.slice none 0 0],.agg #[.int .i64 0,.int .i64 0],.int .i64 z]) (by simp [results,Tryz.results105,go_sem,r0,r1,t0,t1]) rfl ⟨below_set (below_set (below_set (below_set (keepB hbb hb) (by omega) _) (by omega) _) (by omega) _) (by omega) _,.inl ⟨hne,rfl⟩⟩
 ·have hfd':=((((hfd.set (p:=w.heap.size + 3) (o:=0) (by omega) (.slice A2 l.length ca2)).set (p:=w.heap.size + 3) (o:=1) (by omega) (.slice Q2 (qs.length + 1) cq2)).set (p:=w.heap.size + 4) (o:=0) (by omega) (.int .i64 tq.x)).set (p:=w.heap.size + 4) (o:=1) (by omega) (.int .i64 tq.y)).mono (show w.heap.size ≤ V.heap.size by omega)
  have HFD:=Lib.hid hfd';have HDAT:=Lib.hid hdat;have HE:=Lib.hid he;clear hfd hfd' hdat he;have r0:=B3.c 0 rfl;have r1:=B3.c 1 rfl;have f0:=B3.f 0 rfl;have f1:=B3.f 1 rfl;have t0:=B4.c 0 rfl;have t1:=B4.c 1 rfl;have g0:=B4.f 0 rfl;have g1:=B4.f 1 rfl;(go_wp2_with fail);exact bodyPost_ret (v:=.tuple #[.agg #[.slice A2 l.length ca2,.slice Q2 (qs ++ [tq]).length cq2],.agg #[.int .i64 tq.x,.int .i64 tq.y],.int .i64 0]) (by simp [results,Tryz.results105,go_sem,r0,r1,t0,t1]) rfl ⟨below_set (below_set (below_set (below_set (keepB hbb hb) (by omega) _) (by omega) _) (by omega) _) (by omega) _,.inr ⟨HE.out,A2,ca2,l,Q2,cq2,rfl,HDAT.out,HFD.out⟩⟩
/-- What Open gives. -/
def OpenQ (D : List CkD) (w : World) (e : Ending) (w' : World) : Prop :=
 Below w.heap.size w w'∧((Ak.chkS D 0 ≠ 0∧e = .returned (.tuple #[.agg #[.slice none 0 0,.slice none 0 0],.int .i64 (Ak.chkS D 0)])) ∨
  (Ak.chkS D 0 = 0∧∃ A ca l Q cq,e = .returned (.tuple #[.agg #[.slice A l.length ca,.slice Q 0 cq],.int .i64 0])∧l.map Ak.dat = D∧FD w' w.heap.size A ca l Q cq []))
theorem askOpen_any (A : Option Addr) (ca : Nat) (cs : List CkR) (w : World) (h : IsCs w A cs) :
 Calls Tryz.prog 44 #[.slice A cs.length ca] w (OpenQ (cs.map Ak.dat) w):=by
 unfold OpenQ
 have ch:=fun v (hv : Below w.heap.size w v) => askCheck_any A ca cs none 0 0 v (by simp) (h.keep hv)
 by_cases h1 : Ak.chkS (cs.map Ak.dat) 0 = 0
 ·have hgd:=Ak.chkS_good h1
  have l1:=hgd.l1;rw [List.length_map] at l1
  have hgc : ∀ c ∈ cs,Ak.ckD (Ak.dat c) = 0:=fun c hc => hgd.all _ (List.mem_map_of_mem hc)
  have cp:=fun v (hv : Below w.heap.size w v) => copied_any A ca cs none [] 0 v (h.keep hv) (isQs_nil v none) hgc l1 (by simp)
  rw [h1] at ch;have CH:=Lib.hid ch;have CP:=Lib.hid cp;have HE:=Lib.hid h1
  simp only [List.length_nil] at CP
  have e0 : ((0 : Int) != 0) = false:=rfl;clear ch cp h1 hgd hgc h
  go_enter Tryz.func44,Tryz.ntmps44
  go_upto_region 2 with fail
  refine at_box2 (fun V hbb B0 B1 hVs => ?_);have p0:=B1.c 0 rfl;have p1:=B1.c 1 rfl;(go_wp2_with fail);refine (CH.out _ hbb).mono ?_;rintro e w1 ⟨rfl,hb⟩;clear p0 p1;replace hbb:=keepB hbb hb;replace B0:=B0.keep hb;replace B1:=B1.keep hb;have hws:=hb.size;clear hb;have p0:=B1.c 0 rfl;have p1:=B1.c 1 rfl;(go_wp2_with fail);refine (CP.out _ hbb).mono ?_;rintro e w2 ⟨N,rv,lv,l,rfl,hdat,hcr,hlog,hlv⟩;obtain ⟨R,cr,rfl,_⟩:=Ak.row_cap hcr.row;obtain ⟨Q2,cq2,rfl,_⟩:=Ak.row_cap hlog;have hN:=hcr.hw;have hfd : FD w2 w1.heap.size R cr l Q2 cq2 []:=⟨World.ownsRow.mono hcr.row hN,fun c hc => ⟨(hcr.all c hc).1,(hcr.all c hc).2.1,((hcr.all c hc).2.2.1.row (fun g e => by cases e)).mono hN,((hcr.all c hc).2.2.2.row (fun g e => by cases e)).mono hN⟩,hlog,(by intro q hq;cases hq),by have:=congrArg List.length hdat;simp at this;unfold maxLen;omega,by simp⟩;clear p0 p1;have hfd':=((hfd.set (p:=w.heap.size) (o:=0) (by omega) (.slice R l.length cr)).set (p:=w.heap.size) (o:=1) (by omega) (.slice Q2 0 cq2)).mono (show w.heap.size ≤ w1.heap.size by omega);have HFD:=Lib.hid hfd';have HDAT:=Lib.hid hdat;replace B0:=B0.keep hcr.bb;replace hbb:=keepB hbb hcr.bb;clear hfd hfd' hdat hlog hlv hcr hN l1;have r0:=B0.c 0 rfl;have r1:=B0.c 1 rfl;have f0:=B0.f 0 rfl;have f1:=B0.f 1 rfl;(go_wp2_with fail);exact bodyPost_ret (v:=.tuple #[.agg #[.slice R l.length cr,.slice Q2 0 cq2],.int .i64 0]) (by simp [results,Tryz.results44,go_sem,r0,r1]) rfl ⟨below_set (below_set hbb (by omega) _) (by omega) _,.inr ⟨HE.out,R,cr,l,Q2,cq2,rfl,HDAT.out,HFD.out⟩⟩
 ·have HNZ:=Lib.hid h1
  have n1 : (Ak.chkS (cs.map Ak.dat) 0 != 0) = true:=by rw [bne_iff_ne];exact h1
  generalize Ak.chkS (cs.map Ak.dat) 0 = z at *
  have CH:=Lib.hid ch;clear ch h1 h
  go_enter Tryz.func44,Tryz.ntmps44
  go_upto_region 2 with fail
  refine at_box2 (fun V hbb B0 B1 hVs => ?_);have p0:=B1.c 0 rfl;have p1:=B1.c 1 rfl;(go_wp2_with fail);refine (CH.out _ hbb).mono ?_;rintro e w1 ⟨rfl,hb⟩;clear p0 p1;replace hbb:=keepB hbb hb;replace B0:=B0.keep hb;clear hb;have r0:=B0.c 0 rfl;have r1:=B0.c 1 rfl;have f0:=B0.f 0 rfl;have f1:=B0.f 1 rfl;(go_wp2_with fail);exact bodyPost_ret (v:=.tuple #[.agg #[.slice none 0 0,.slice none 0 0],.int .i64 z]) (by simp [results,Tryz.results44,go_sem,r0,r1]) rfl ⟨below_set (below_set hbb (by omega) _) (by omega) _,.inl ⟨HNZ.out,rfl⟩⟩
theorem askTotal_good (A : Option Addr) (ca : Nat) (cs : List CkR) (Q : Option Addr) (m cq k : Nat) (w : World) (h : IsCs w A cs) (hm : m ≤ maxLen) (hc : Ak.chkS (cs.map Ak.dat) m = 0) (hk : k < cs.length) :
 Calls Tryz.prog 146 #[.agg #[.slice A cs.length ca,.slice Q m cq],.int .i64 k] w fun e w' => e = .returned (.tuple #[.int .i64 (Ck.totS (Ak.cat cs k).len (Ak.cat cs k).cuts (Ak.cat cs k).dens).1,.int .i64 (Ck.totS (Ak.cat cs k).len (Ak.cat cs k).cuts (Ak.cat cs k).dens).2])∧Below w.heap.size w w':=by
 have ch:=fun v (hv : Below w.heap.size w v) => askCheck_any A ca cs Q m cq v hm (h.keep hv)
 rw [hc] at ch
 have has:=fun v => has_any A cs.length ca Q m cq k v
 rw [decide_eq_true (show (0 : Int) ≤ k∧(k : Int) < cs.length by omega)] at has;have hln:=h.len
 unfold maxLen at hln
 obtain ⟨bb,o,hA,hcl⟩:=h.at_;obtain rfl:=hA (by omega);have hi:=h.all _ (Ak.cat_mem hk);have hcl:=hcl k hk
 generalize Ak.cat cs k = cc at *
 have tt:=fun v (hv : Below w.heap.size w v) => ckTotal_any cc.len cc.K cc.cuts cc.ck cc.Z cc.dens cc.cz v (hi.keep hv)
 generalize Ck.totS cc.len cc.cuts cc.dens = R at *
 obtain ⟨R1,R2⟩:=R;dsimp only at tt ⊢;have CH:=Lib.hid ch;have HAS:=Lib.hid has;have TT:=Lib.hid tt;have HCL:=Lib.hid hcl
 have i1 : (0 : Int) ≤ (k : Int):=by omega
 have i2 : (k : Int) < (cs.length : Int):=by omega
 have e0 : ((0 : Int) != 0) = false:=rfl;clear ch has tt hcl hA hi h hc hm
 go_enter Tryz.func146,Tryz.ntmps146
 go_upto_region 1 with fail
 refine at_box1 (fun V hbb B0 hVs => ?_);have p0:=B0.c 0 rfl;have p1:=B0.c 1 rfl;(go_wp2_with fail);refine (CH.out _ hbb).mono ?_;rintro e w1 ⟨rfl,hb⟩;clear p0 p1;replace hbb:=keepB hbb hb;replace B0:=B0.keep hb;clear hb;have p0:=B0.c 0 rfl;have p1:=B0.c 1 rfl
 go_upto_region 5 with fail
 clear p0 p1;refine at_worldQ (fun v => Below w.heap.size w v∧BK v w1.heap.size [.slice (some ⟨bb,o,none⟩) cs.length ca,.slice Q m cq]) ⟨below_al hbb _,BK.new w1 [.slice (some ⟨bb,o,none⟩) cs.length ca,.slice Q m cq] _⟩ (fun V5 hS => ?_);clear hbb B0;obtain ⟨hbb,B1⟩:=hS
 generalize w1.heap.size = P1 at *
 have p0:=B1.c 0 rfl;have p1:=B1.c 1 rfl;(go_wp2_with fail);refine (HAS.out _).mono ?_;rintro e w2 ⟨rfl,hb⟩;clear p0 p1;replace hbb:=keepB hbb hb;replace B1:=B1.keep hb;clear hb;have p0:=B1.c 0 rfl;have p1:=B1.c 1 rfl;have c0:=keepC hbb HCL.out.1;have c1:=keepC hbb HCL.out.2.1;have c2:=keepC hbb HCL.out.2.2;(go_wp2_with fail);refine (TT.out _ hbb).mono ?_;rintro e w3 ⟨rfl,hb⟩;replace hbb:=keepB hbb hb;clear hb p0 p1 c0 c1 c2;(go_wp2_with fail)
 go_ret2
 exact ⟨rfl,hbb⟩
end Go.Proofs.YtogmfebphiglaaaGreat
namespace Go.Proofs.YtogmfebphiglaaaGreat
open Go.RowKit
theorem wrong_any (A : Option Addr) (ca : Nat) (cs : List CkR) (Q : Option Addr) (m cq : Nat) (ag kd a b c d x y : Int) (w : World) (h : IsCs w A cs) (hg : ∀ c ∈ cs,Ak.ckD (Ak.dat c) = 0) (hq : Ak.Q64 ⟨ag,kd,a,b,c,d,x,y⟩) :
 Calls Tryz.prog 68 #[.agg #[.slice A cs.length ca,.slice Q m cq],.agg #[.int .i64 ag,.int .u8 kd,.int .i64 a,.int .i64 b,.int .i64 c,.int .i64 d,.int .i64 x,.int .i64 y]] w fun e w' => e = .returned (.bool (Ak.wrongS (cs.map Ak.dat) ⟨ag,kd,a,b,c,d,x,y⟩))∧Below w.heap.size w w':=by
 obtain ⟨r,hr⟩ : ∃ r,Ak.ansS (cs.map Ak.dat) ⟨ag,kd,a,b,c,d,x,y⟩ = r:=⟨_,rfl⟩
 have an:=fun v (hv : Below w.heap.size w v) => answer_any A ca cs Q m cq ag kd a b c d x y v (h.keep hv) hg hq r hr
 unfold Ak.wrongS
 rw [hr]
 dsimp only
 clear hr h hg hq;obtain ⟨R1,R2,R3⟩:=r;dsimp only at an;have AN:=Lib.hid an;clear an
 by_cases h3 : R3 = 0
 ·subst h3
  by_cases h1 : R1 = x
  ·subst h1
   by_cases h2 : R2 = y
   ·subst h2
    rw [show (!decide ((R1,R2,(0 : Int)) = (R1,R2,0))) = false by simp]
    go_enter Tryz.func68,Tryz.ntmps68
    go_upto_region 1 with fail
    refine at_box2 (fun V hbb B0 B1 hVs => ?_);have p0:=B0.c 0 rfl;have p1:=B0.c 1 rfl;have y0:=B1.c 0 rfl;have y1:=B1.c 1 rfl;have y2:=B1.c 2 rfl;have y3:=B1.c 3 rfl;have y4:=B1.c 4 rfl;have y5:=B1.c 5 rfl;have y6:=B1.c 6 rfl;have y7:=B1.c 7 rfl;(go_wp2_with fail);refine (AN.out _ hbb).mono ?_;rintro e w1 ⟨rfl,hb⟩;clear p0 p1;clear y0 y1 y2 y3 y4 y5 y6 y7;replace hbb:=keepB hbb hb;replace B1:=B1.keep hb;clear hb B0
    go_upto_region 2 with fail
    refine at_worldQ (fun v => Below w.heap.size w v∧BK v (w.heap.size + 1) [.int .i64 ag,.int .u8 kd,.int .i64 a,.int .i64 b,.int .i64 c,.int .i64 d,.int .i64 R1,.int .i64 R2]∧BK v w1.heap.size [.int .i64 R1,.int .i64 R2]) ⟨below_al hbb _,B1.al _,BK.new w1 [.int .i64 R1,.int .i64 R2] _⟩ (fun V2 hS => ?_);clear hbb B1;obtain ⟨hbb,B1,B5⟩:=hS
    generalize w1.heap.size = P5 at *
    have y6:=B1.c 6 rfl;have y7:=B1.c 7 rfl;have z0:=B5.c 0 rfl;have z1:=B5.c 1 rfl;(go_wp2_with fail)
    go_ret
    exact ⟨by first | rfl | simp,hbb⟩
   ·rw [show (!decide ((R1,R2,(0 : Int)) = (R1,y,0))) = true by simp [h2]]
    have e2 : (R2 == y) = false:=by rw [beq_eq_false_iff_ne];exact h2
    go_enter Tryz.func68,Tryz.ntmps68
    go_upto_region 1 with fail
    refine at_box2 (fun V hbb B0 B1 hVs => ?_);have p0:=B0.c 0 rfl;have p1:=B0.c 1 rfl;have y0:=B1.c 0 rfl;have y1:=B1.c 1 rfl;have y2:=B1.c 2 rfl;have y3:=B1.c 3 rfl;have y4:=B1.c 4 rfl;have y5:=B1.c 5 rfl;have y6:=B1.c 6 rfl;have y7:=B1.c 7 rfl;(go_wp2_with fail);refine (AN.out _ hbb).mono ?_;rintro e w1 ⟨rfl,hb⟩;clear p0 p1;clear y0 y1 y2 y3 y4 y5 y6 y7;replace hbb:=keepB hbb hb;replace B1:=B1.keep hb;clear hb B0
    go_upto_region 2 with fail
    refine at_worldQ (fun v => Below w.heap.size w v∧BK v (w.heap.size + 1) [.int .i64 ag,.int .u8 kd,.int .i64 a,.int .i64 b,.int .i64 c,.int .i64 d,.int .i64 R1,.int .i64 y]∧BK v w1.heap.size [.int .i64 R1,.int .i64 R2]) ⟨below_al hbb _,B1.al _,BK.new w1 [.int .i64 R1,.int .i64 R2] _⟩ (fun V2 hS => ?_);clear hbb B1;obtain ⟨hbb,B1,B5⟩:=hS
    generalize w1.heap.size = P5 at *
    have y6:=B1.c 6 rfl;have y7:=B1.c 7 rfl;have z0:=B5.c 0 rfl;have z1:=B5.c 1 rfl;(go_wp2_with fail)
    go_ret
    exact ⟨by first | rfl | simp [h2],hbb⟩
  ·rw [show (!decide ((R1,R2,(0 : Int)) = (x,y,0))) = true by simp [h1]]
   have e2 : (R1 == x) = false:=by rw [beq_eq_false_iff_ne];exact h1
   go_enter Tryz.func68,Tryz.ntmps68
   go_upto_region 1 with fail
   refine at_box2 (fun V hbb B0 B1 hVs => ?_);have p0:=B0.c 0 rfl;have p1:=B0.c 1 rfl;have y0:=B1.c 0 rfl;have y1:=B1.c 1 rfl;have y2:=B1.c 2 rfl;have y3:=B1.c 3 rfl;have y4:=B1.c 4 rfl;have y5:=B1.c 5 rfl;have y6:=B1.c 6 rfl;have y7:=B1.c 7 rfl;(go_wp2_with fail);refine (AN.out _ hbb).mono ?_;rintro e w1 ⟨rfl,hb⟩;clear p0 p1;clear y0 y1 y2 y3 y4 y5 y6 y7;replace hbb:=keepB hbb hb;replace B1:=B1.keep hb;clear hb B0
   go_upto_region 2 with fail
   refine at_worldQ (fun v => Below w.heap.size w v∧BK v (w.heap.size + 1) [.int .i64 ag,.int .u8 kd,.int .i64 a,.int .i64 b,.int .i64 c,.int .i64 d,.int .i64 x,.int .i64 y]∧BK v w1.heap.size [.int .i64 R1,.int .i64 R2]) ⟨below_al hbb _,B1.al _,BK.new w1 [.int .i64 R1,.int .i64 R2] _⟩ (fun V2 hS => ?_);clear hbb B1;obtain ⟨hbb,B1,B5⟩:=hS
   generalize w1.heap.size = P5 at *
   have y6:=B1.c 6 rfl;have y7:=B1.c 7 rfl;have z0:=B5.c 0 rfl;have z1:=B5.c 1 rfl;(go_wp2_with fail)
   go_ret
   exact ⟨by first | rfl | simp [h1],hbb⟩
 ·rw [show (!decide ((R1,R2,R3) = (x,y,0))) = true by simp [h3]]
  have n3 : (R3 != 0) = true:=by rw [bne_iff_ne];exact h3
  go_enter Tryz.func68,Tryz.ntmps68
  go_upto_region 1 with fail
  refine at_box2 (fun V hbb B0 B1 hVs => ?_);have p0:=B0.c 0 rfl;have p1:=B0.c 1 rfl;have y0:=B1.c 0 rfl;have y1:=B1.c 1 rfl;have y2:=B1.c 2 rfl;have y3:=B1.c 3 rfl;have y4:=B1.c 4 rfl;have y5:=B1.c 5 rfl;have y6:=B1.c 6 rfl;have y7:=B1.c 7 rfl;(go_wp2_with fail);refine (AN.out _ hbb).mono ?_;rintro e w1 ⟨rfl,hb⟩;clear p0 p1;clear y0 y1 y2 y3 y4 y5 y6 y7;replace hbb:=keepB hbb hb;replace B1:=B1.keep hb;clear hb B0
  go_upto_region 2 with fail
  refine at_worldQ (fun v => Below w.heap.size w v∧BK v (w.heap.size + 1) [.int .i64 ag,.int .u8 kd,.int .i64 a,.int .i64 b,.int .i64 c,.int .i64 d,.int .i64 x,.int .i64 y]∧BK v w1.heap.size [.int .i64 R1,.int .i64 R2]) ⟨below_al hbb _,B1.al _,BK.new w1 [.int .i64 R1,.int .i64 R2] _⟩ (fun V2 hS => ?_);clear hbb B1;obtain ⟨hbb,B1,B5⟩:=hS
  generalize w1.heap.size = P5 at *
  have y6:=B1.c 6 rfl;have y7:=B1.c 7 rfl;have z0:=B5.c 0 rfl;have z1:=B5.c 1 rfl;(go_wp2_with fail)
  go_ret
  exact ⟨by first | rfl | simp,hbb⟩
namespace Ak
theorem firstW_at {D : List CkD} : ∀ {qs : List Qr} {k : Nat},k < qs.length → (∀ j,j < k → wrongS D (qat qs j) = false) → wrongS D (qat qs k) = true → firstW D qs = k
 | [],_,h,_,_ => absurd h (by simp)
 | q :: l,0,_,_,h => by unfold firstW;rw [if_pos (show wrongS D q = true from h)]
 | q :: l,k + 1,hk,h,hw => by
  have h0 : wrongS D q = false:=h 0 (by omega)
  unfold firstW
  rw [if_neg (by rw [h0];decide),firstW_at (qs:=l) (k:=k) (by simpa using hk) (fun j hj => h (j + 1) (by omega)) hw]
theorem firstW_all {D : List CkD} : ∀ {qs : List Qr},(∀ j,j < qs.length → wrongS D (qat qs j) = false) → firstW D qs = qs.length
 | [],_ => rfl
 | q :: l,h => by
  have h0 : wrongS D q = false:=h 0 (by simp)
  unfold firstW
  rw [if_neg (by rw [h0];decide),firstW_all (qs:=l) (fun j hj => h (j + 1) (by simpa using hj))]
  rfl
theorem firstW_le (D : List CkD) : ∀ (qs : List Qr),firstW D qs ≤ qs.length
 | [] => Nat.le_refl _
 | q :: l => by
  unfold firstW
  split
  ·exact Nat.zero_le _
  ·simpa using firstW_le D l
end Ak
theorem indexQ_any (A : Option Addr) (ca : Nat) (cs : List CkR) (Q : Option Addr) (m cq : Nat) (E : Option Addr) (ce : Nat) (qs : List Qr) (w : World) (h : IsCs w A cs) (hg : ∀ c ∈ cs,Ak.ckD (Ak.dat c) = 0) (hq : IsQs w E qs) :
 Calls Tryz.prog 67 #[.slice E qs.length ce,.func (.func 68) #[.agg #[.slice A cs.length ca,.slice Q m cq]] #[]] w fun e w' => e = .returned (.int .i64 (if Ak.firstW (cs.map Ak.dat) qs = qs.length then -1 else (Ak.firstW (cs.map Ak.dat) qs : Int)))∧Below w.heap.size w w':=by
 have WA:=Lib.hid (fun (q : Qr) (hqq : Ak.Q64 q) v (hv : Below w.heap.size w v) => wrong_any A ca cs Q m cq q.ag q.kd q.a q.b q.c q.d q.x q.y v (h.keep hv) hg hqq);obtain ⟨b,o,hA,hc⟩:=hq.at_;have HC:=Lib.hid hc;have HA:=Lib.hid hA;have H6:=Lib.hid (fun k (hk : k < qs.length) => hq.all _ (Ak.qat_mem hk));have hln:=hq.len
 unfold maxLen at hln
 obtain ⟨R,hR⟩ : ∃ R,Ak.firstW (cs.map Ak.dat) qs = R:=⟨_,rfl⟩;rw [hR];have HR:=Lib.hid hR
 generalize (cs.map Ak.dat) = D at *
 clear h hg hq hc hA hR
 go_enter Tryz.func67,Tryz.ntmps67
 go_wp2_with fail
 go_loopw [5,8] (fun _ i W => ∃ k : Nat,k ≤ qs.length∧i = .int .i64 k∧(∀ j,j < k → Ak.wrongS D (Ak.qat qs j) = false)∧Below w.heap.size w W) (fun _ i _ => qs.length - (intOf i).toNat)
 case atStart => exact ⟨0,Nat.zero_le _,rfl,fun j hj => absurd hj (Nat.not_lt_zero _),Below.refl _ _⟩
 case round =>
  obtain ⟨k,hk,rfl,hok,hbb⟩:=hrel;have HOK:=Lib.hid hok;clear hok
  by_cases hlt : k < qs.length
  ·have hA':=HA.out (by omega)
   subst hA';obtain ⟨q,hqq⟩ : ∃ q,Ak.qat qs k = q:=⟨_,rfl⟩;obtain ⟨c0,c1,c2,c3,c4,c5,c6,c7⟩:=(HC.out k hlt).keep hbb;rw [hqq] at c0 c1 c2 c3 c4 c5 c6 c7;dsimp only at c0 c1 c2 c3 c4 c5 c6 c7;rw [Nat.add_zero] at c0;have hwa:=WA.out q (hqq ▸ H6.out k hlt) wr hbb
   have i1 : (0 : Int) ≤ (k : Int):=by omega
   have i2 : (k : Int) < (qs.length : Int):=by omega
   obtain ⟨z,hz⟩ : ∃ z,Ak.wrongS D q = z:=⟨_,rfl⟩;rw [show (⟨q.ag,q.kd,q.a,q.b,q.c,q.d,q.x,q.y⟩ : Qr) = q from rfl,hz] at hwa;have HW:=Lib.hid hwa;have EB:=Lib.hid (show Ak.wrongS D (Ak.qat qs k) = z by rw [hqq,hz]);clear hwa hz hqq
   cases z
   ·go_wp2_with fail
    refine HW.out.mono ?_;rintro e w1 ⟨rfl,hb1⟩;replace hbb:=keepB hbb hb1;clear hb1 c0 c1 c2 c3 c4 c5 c6 c7 HW;(go_wp2_with fail)
    go_roundw
    case rel => exact ⟨k + 1,by omega,by go_num,fun j hj => (Nat.lt_succ_iff_lt_or_eq.1 hj).elim (HOK.out j) (fun e => e ▸ EB.out),hbb⟩
    case measure => simp [intOf];omega
   ·obtain rfl : R = k:=HR.out.symm.trans (Ak.firstW_at hlt HOK.out EB.out)
    have HNE:=Lib.hid (show ¬ R = qs.length by omega);(go_wp2_with fail);refine HW.out.mono ?_;rintro e w1 ⟨rfl,hb1⟩;replace hbb:=keepB hbb hb1;clear hb1 c0 c1 c2 c3 c4 c5 c6 c7 HW;(go_wp2_with fail)
    go_ret
    exact ⟨by first | rfl | rw [if_neg HNE.out],hbb⟩
  ·obtain rfl : k = qs.length:=by omega
   obtain rfl : R = qs.length:=HR.out.symm.trans (Ak.firstW_all HOK.out);clear HOK HR HA HC H6 WA;(go_wp2_with fail)
   go_ret
   exact ⟨by first | rfl | rw [if_pos rfl],hbb⟩
/-- What Replay gives. -/
def Ak.repS (D : List CkD) (qs : List Qr) : Int × Int:=if Ak.chkS D qs.length ≠ 0 then (0,Ak.chkS D qs.length) else ((Ak.firstW D qs : Int),0)
theorem askReplay_any (A : Option Addr) (ca : Nat) (cs : List CkR) (Q : Option Addr) (cq : Nat) (qs : List Qr) (w : World) (h : IsCs w A cs) (hq : IsQs w Q qs) :
 Calls Tryz.prog 26 #[.slice A cs.length ca,.slice Q qs.length cq] w fun e w' => e = .returned (.tuple #[.int .i64 (Ak.repS (cs.map Ak.dat) qs).1,.int .i64 (Ak.repS (cs.map Ak.dat) qs).2])∧Below w.heap.size w w':=by
 have ch:=fun v (hv : Below w.heap.size w v) => askCheck_any A ca cs Q qs.length cq v hq.len (h.keep hv)
 have hln:=hq.len
 unfold maxLen at hln
 unfold Ak.repS
 by_cases h1 : Ak.chkS (cs.map Ak.dat) qs.length = 0
 ·have hgd:=Ak.chkS_good h1
  have hgc : ∀ c ∈ cs,Ak.ckD (Ak.dat c) = 0:=fun c hc => hgd.all _ (List.mem_map_of_mem hc)
  have ix:=fun v (hv : Below w.heap.size w v) => indexQ_any A ca cs Q qs.length cq Q cq qs v (h.keep hv) hgc (hq.keep hv)
  have hle:=Ak.firstW_le (cs.map Ak.dat) qs;rw [h1] at ch;rw [if_neg (by rw [h1];decide)]
  dsimp only
  generalize Ak.firstW (cs.map Ak.dat) qs = R at *
  have CH:=Lib.hid ch;have e0 : ((0 : Int) != 0) = false:=rfl
  by_cases hR : R = qs.length
  ·rw [if_pos hR] at ix
   rw [hR];have IXX:=Lib.hid ix
   have d1 : decide ((-1 : Int) < 0) = true:=by decide
   clear ch ix h1 hgd hgc h hq hle hR
   go_enter Tryz.func26,Tryz.ntmps26
   go_upto_region 2 with fail
   refine at_box1 (fun V hbb B0 hVs => ?_);have p0:=B0.c 0 rfl;have p1:=B0.c 1 rfl;(go_wp2_with fail);refine (CH.out _ hbb).mono ?_;rintro e w1 ⟨rfl,hb⟩;clear p0 p1;replace hbb:=keepB hbb hb;replace B0:=B0.keep hb;clear hb;have p0:=B0.c 0 rfl;have p1:=B0.c 1 rfl
   go_upto_region 6 with fail
   clear p0 p1;refine at_worldQ (fun v => Below w.heap.size w v∧BK v w1.heap.size [.slice A cs.length ca,.slice Q qs.length cq]) ⟨below_al hbb _,BK.new w1 [.slice A cs.length ca,.slice Q qs.length cq] _⟩ (fun V6 hS => ?_);clear hbb B0;obtain ⟨hbb,B8⟩:=hS
   generalize w1.heap.size = P8 at *
   have z0:=B8.c 0 rfl;have z1:=B8.c 1 rfl;(go_wp2_with fail);refine (IXX.out _ hbb).mono ?_;rintro e w2 ⟨rfl,hb⟩;clear z0 z1;replace hbb:=keepB hbb hb;replace B8:=B8.keep hb;clear hb;have z1:=B8.c 1 rfl;(go_wp2_with fail)
   go_ret2
   exact ⟨rfl,hbb⟩
  ·rw [if_neg hR] at ix
   have IXX:=Lib.hid ix;have d1 : decide ((R : Int) < 0) = false:=decide_eq_false (by omega);clear ch ix h1 hgd hgc h hq hR
   go_enter Tryz.func26,Tryz.ntmps26
   go_upto_region 2 with fail
   refine at_box1 (fun V hbb B0 hVs => ?_);have p0:=B0.c 0 rfl;have p1:=B0.c 1 rfl;(go_wp2_with fail);refine (CH.out _ hbb).mono ?_;rintro e w1 ⟨rfl,hb⟩;clear p0 p1;replace hbb:=keepB hbb hb;replace B0:=B0.keep hb;clear hb;have p0:=B0.c 0 rfl;have p1:=B0.c 1 rfl
   go_upto_region 6 with fail
   clear p0 p1;refine at_worldQ (fun v => Below w.heap.size w v∧BK v w1.heap.size [.slice A cs.length ca,.slice Q qs.length cq]) ⟨below_al hbb _,BK.new w1 [.slice A cs.length ca,.slice Q qs.length cq] _⟩ (fun V6 hS => ?_);clear hbb B0;obtain ⟨hbb,B8⟩:=hS
   generalize w1.heap.size = P8 at *
   have z0:=B8.c 0 rfl;have z1:=B8.c 1 rfl;(go_wp2_with fail);refine (IXX.out _ hbb).mono ?_;rintro e w2 ⟨rfl,hb⟩;clear z0 z1;replace hbb:=keepB hbb hb;replace B8:=B8.keep hb;clear hb;(go_wp2_with fail)
   go_ret2
   exact ⟨rfl,hbb⟩
 ·rw [if_pos h1]
  have n1 : (Ak.chkS (cs.map Ak.dat) qs.length != 0) = true:=by rw [bne_iff_ne];exact h1
  dsimp only
  generalize Ak.chkS (cs.map Ak.dat) qs.length = z at *
  have CH:=Lib.hid ch;clear ch h1 h hq
  go_enter Tryz.func26,Tryz.ntmps26
  go_upto_region 2 with fail
  refine at_box1 (fun V hbb B0 hVs => ?_);have p0:=B0.c 0 rfl;have p1:=B0.c 1 rfl;(go_wp2_with fail);refine (CH.out _ hbb).mono ?_;rintro e w1 ⟨rfl,hb⟩;replace hbb:=keepB hbb hb;clear p0 p1 hb;(go_wp2_with fail)
  go_ret2
  exact ⟨rfl,hbb⟩
end Go.Proofs.YtogmfebphiglaaaGreat


