/- Package piece's sweep. -/
import Derived.Test.YtogmfebphiglaaaGreatPnear
namespace Go.Proofs.YtogmfebphiglaaaGreat
open Go.RowKit
namespace Pc
theorem den_ne {p q : Rat} (h : p ≠ q) (h1 : p.num = q.num) : ¬ ((p.den : Int) = (q.den : Int)):=fun e => h (Rat.ext h1 (by omega))
theorem swp_nil (f : Bool → Bool → Bool) (x y k : Bool) : swp f [] [] x y k = []:=by unfold swp;simp
theorem swp_same {f : Bool → Bool → Bool} {a b : List Rat} {x y k : Bool} (h : ¬ (a = []∧b = [])) (hf : f (xor x (hit (near a b) a)) (xor y (hit (near a b) b)) = k) :
 swp f a b x y k = swp f (off (near a b) a) (off (near a b) b) (xor x (hit (near a b) a)) (xor y (hit (near a b) b)) k:=by
 conv => lhs;unfold swp
 rw [dif_neg h]
 simp only [hf,if_true]
theorem swp_turn {f : Bool → Bool → Bool} {a b : List Rat} {x y k : Bool} (h : ¬ (a = []∧b = [])) (hf : f (xor x (hit (near a b) a)) (xor y (hit (near a b) b)) ≠ k) :
 swp f a b x y k = near a b :: swp f (off (near a b) a) (off (near a b) b) (xor x (hit (near a b) a)) (xor y (hit (near a b) b)) (!k):=by
 have e : f (xor x (hit (near a b) a)) (xor y (hit (near a b) b)) = !k:=by
  revert hf
  generalize f _ _ = z
  cases z <;> cases k <;> simp
 conv => lhs;unfold swp
 rw [dif_neg h]
 simp only [e]
 rw [if_neg (by cases k <;> simp)]
end Pc
theorem at_worldK {K : Act → World → Prop} {a : Act} {w : World} (S : World → Prop) (h : S w) (k : ∀ V,S V → K a V) : K a w:=k w h
/-- How many elements a slice has. -/
def slen : Value → Nat
 | .slice _ n _ => n
 | _ => 0
theorem IsQ.tail {w : World} {b off : Nat} {q : Rat} {l : List Rat} (h : IsQ w (some ⟨b,off,none⟩) (q :: l)) : IsQ w (some ⟨b,off + 2,none⟩) l:=fun h0 => by
 obtain ⟨b',off',e,hc⟩:=h (by simp)
 simp only [Option.some.injEq,Addr.mk.injEq,and_true] at e
 obtain ⟨rfl,rfl⟩:=e;refine ⟨_,_,rfl,fun i hi => ?_⟩;have:=hc (i + 1) (by simpa using hi);rw [show off + (i + 1) * 2 = off + 2 + i * 2 by omega] at this;exact this
theorem IsQ.head {w : World} {A : Option Addr} {q : Rat} {l : List Rat} (h : IsQ w A (q :: l)) : ∃ b off,A = some ⟨b,off,none⟩∧w.cell? ⟨b,off,none⟩ = some (.int .i64 q.num)∧w.cell? ⟨b,off + 1,none⟩ = some (.int .i64 (q.den : Int)):=by
 obtain ⟨b,off,e,hc⟩:=h (by simp);have:=hc 0 (by simp);rw [Nat.zero_mul,Nat.add_zero] at this;exact ⟨b,off,e,this⟩

set_option linter.unusedSimpArgs false in
set_option maxHeartbeats 8000000 in
set_option maxRecDepth 100000 in
theorem sweep_any (A B : Option Addr) (ca cb : Nat) (la lb : List Rat) (g : FuncId) (f : Bool → Bool → Bool) (w : World) (hK : ∀ x y v,Calls Tryz.prog g #[.bool x,.bool y] v fun e w' => e = .returned (.bool (f x y))∧Below v.heap.size v w')
 (hE : ∀ (x y : Bool) (v : World),Sem.run Tryz.prog (callFunc g #[.bool x,.bool y]) v = .ok (.enter g #[.bool x,.bool y]) v)
 (hA : IsQ w A la) (hB : IsQ w B lb) (fa : ∀ r ∈ la,Pc.Fit r) (fb : ∀ r ∈ lb,Pc.Fit r) (hl : la.length + lb.length ≤ 480) (hca : la.length ≤ ca) (hcb : lb.length ≤ cb) :
 Calls Tryz.prog 241 #[.slice A la.length ca,.slice B lb.length cb,.func (.func g) #[] #[]] w fun e w' => ∃ v,e = .returned v∧Acc w w.heap.size 31 2 v (Pc.swp f la lb false false false).length (Pc.cells2 (Pc.swp f la lb false false false)) w':=by
 obtain ⟨SWP,hSW⟩ : ∃ s,Pc.swp f la lb false false false = s:=⟨_,rfl⟩;rw [hSW];obtain ⟨i0,hi0,hz0,hz1,hz2⟩:=info_parts ratInfo;have HI:=Lib.hid hi0;have HI2:=Lib.hid hz0;have HI3:=Lib.hid hz1;have HI4:=Lib.hid hz2;clear hi0 hz0 hz1 hz2;have HS:=Lib.hid (show SWP = [] ++ Pc.swp f la lb false false false from hSW.symm);clear hSW;have HE:=Lib.hid hE;clear hE
 go_enter Tryz.func241,Tryz.ntmps241
 go_wp2_with fail
 go_loopw [0,1,7,8,9,10,11] (fun a b v x y k _ W => ∃ (la lb res : List Rat) (A B : Option Addr) (ca cb : Nat) (x' y' k' : Bool),a = .slice A la.length ca∧b = .slice B lb.length cb∧x = .bool x'∧y = .bool y'∧k = .bool k'∧(la.length ≤ ca∧lb.length ≤ cb)∧IsQ w A la∧IsQ w B lb∧((∀ r ∈ la,Pc.Fit r)∧∀ r ∈ lb,Pc.Fit r) ∧
  SWP = res ++ Pc.swp f la lb x' y' k'∧res.length + la.length + lb.length ≤ 480∧Acc w w.heap.size 31 2 v res.length (Pc.cells2 res) W) (fun a b _ _ _ _ _ _ => slen a + slen b)
 case atStart => exact ⟨la,lb,[],A,B,ca,cb,false,false,false,rfl,rfl,rfl,rfl,rfl,⟨hca,hcb⟩,hA,hB,⟨fa,fb⟩,HS.out,by simp;omega,Below.refl _ _,Nat.le_refl _,World.ownsRow_nil _ _ _ _⟩
 case round =>
  clear hA hB fa fb hl hca hcb HS;obtain ⟨la,lb,res,A,B,ca,cb,x,y,k,rfl,rfl,rfl,rfl,rfl,⟨hca,hcb⟩,hA,hB,⟨fa,fb⟩,hsw,hl,hR⟩:=hrel
  rcases la with _ | ⟨p,la⟩
  ·rcases lb with _ | ⟨q,lb⟩
   ·rw [Pc.swp_nil,List.append_nil] at hsw
    subst hsw;clear hA hB fa fb hl hca hcb;have e0 : decide ((0 : Int) < (([] : List Rat).length : Int)) = false:=rfl;(go_wp2_with fail)
    go_ret
    exact ⟨_,rfl,hR⟩
   ·
    have nr:=(fun v (hv : Below w.heap.size w v) => nearest_any A B ca cb [] (q :: lb) v (by simp) (hA.keep hv) (hB.keep hv) fa fb)
    try simp only [List.length_nil] at nr
    have en : Pc.near [] (q :: lb) = q:=by rfl
    have eA : Pc.hit q [] = false∧Pc.off q [] = []:=by exact ⟨rfl,rfl⟩
    have eB : Pc.hit q (q :: lb) = true∧Pc.off q (q :: lb) = lb:=by simp [Pc.hit,Pc.off]
    have s1:=fun (h : f x (!y) = k) => Pc.swp_same (f:=f) (a:=[]) (b:=(q :: lb)) (x:=x) (y:=y) (k:=k) (by simp) (by rw [en,eA.1,eB.1];simpa using h)
    have s2:=fun (h : f x (!y) ≠ k) => Pc.swp_turn (f:=f) (a:=[]) (b:=(q :: lb)) (x:=x) (y:=y) (k:=k) (by simp) (by rw [en,eA.1,eB.1];simpa using h)
    rw [en,eA.1,eA.2,eB.1,eB.2] at s1 s2
    simp only [Bool.xor_false,Bool.xor_true] at s1 s2
    rw [en] at nr;have NR:=Lib.hid nr;have KC:=Lib.hid (fun v => hK x (!y) v);have hcf:=HE.out x (!y);clear en eA eB nr;have lA2 : decide ((0 : Int) < (([] : List Rat).length : Int)) = false:=rfl;have lB1 : (q :: lb).length = lb.length + 1:=rfl;have lB2 : decide ((0 : Int) < (((q :: lb).length : Nat) : Int)) = true:=decide_eq_true (by rw [lB1];omega)
    have lB3 : 0 < (q :: lb).length:=by rw [lB1];omega
    have lB4 : 1 ≤ (q :: lb).length:=lB3;obtain ⟨bb,ob,rfl,q0,q1⟩:=hB.head;replace q0:=keepC hR.bb q0;replace q1:=keepC hR.bb q1;have hB':=Lib.hid hB.tail;have HAQ:=Lib.hid hA;have HBQ:=Lib.hid hB;have FA:=Lib.hid fa;have FB:=Lib.hid fb;have S1:=Lib.hid s1;have S2:=Lib.hid s2;have HSW:=Lib.hid hsw;clear hA hB fa fb s1 s2 hsw;have HNB:=Lib.hid lB1
    generalize (q :: lb).length = nb at *
    clear lB1;have hO:=hR.row;(go_wp2_with fail);refine (NR.out _ hR.bb).mono ?_;rintro e w1 ⟨rfl,hb1⟩;replace hR:=hR.keep hb1;replace q0:=keepC hb1 q0;replace q1:=keepC hb1 q1;clear hb1 NR hO
    go_upto_region 5 with fail
    refine at_worldQ (fun v => Acc w w.heap.size 31 2 _ res.length (Pc.cells2 res) v∧BK v w1.heap.size [.int .i64 q.num,.int .i64 (q.den : Int)]∧v.cell? ⟨bb,ob,none⟩ = some (.int .i64 q.num)∧v.cell? ⟨bb,ob + 1,none⟩ = some (.int .i64 (q.den : Int))) ⟨hR.keep (below_al (Below.refl _ _) _),BK.new w1 [.int .i64 q.num,.int .i64 (q.den : Int)] _,cell_alloc q0 _,cell_alloc q1 _⟩ (fun V hS => ?_);clear hR q0 q1;obtain ⟨hR,BP,q0,q1⟩:=hS;have t0:=BP.c 0 rfl;have t1:=BP.c 1 rfl
    generalize w1.heap.size = PP at *
    refine wp_region_noPanic ?_;refine wp_region_held_drew (S:=(Below V.heap.size V)) (by kernel_rfl) ((Below.refl _ _).drew) (fun hHeld => ?_);refine at_anyH (Below V.heap.size V) hHeld (fun wax0 hNew => ?_);clear hHeld;have hHeld:=hNew;clear hNew;refine tkd 0 ?_;refine tkd 1 ?_;refine tkd 2 ?_;refine tkd 3 ?_;(try simp only [PPz]);refine tkns 4 rfl hHeld ?_;(try simp only [PPz]);refine tkns 5 rfl hHeld ?_;(try simp only [PPz]);refine tkns 6 rfl hHeld ?_;(try simp only [PPz]);refine tkns 7 rfl hHeld ?_;(try simp only [PPz]);refine tkns 8 rfl hHeld ?_;(try simp only [PPz]);refine tkd 9 ?_;(try simp only [PPz]);refine wpAnyH_done (by kernel_rfl) ?_ _;refine NoPanic.normal ?_;replace hR:=hR.keep hHeld;replace q0:=keepC hHeld q0;replace q1:=keepC hHeld q1;replace t0:=keepC hHeld t0;replace t1:=keepC hHeld t1;clear hHeld
    go_upto_region 7 with fail
    refine wp_region_noPanic ?_;refine wp_region_held_drew (S:=(Below wax0.heap.size wax0)) (by kernel_rfl) ((Below.refl _ _).drew) (fun hHeld => ?_);refine at_anyH (Below wax0.heap.size wax0) hHeld (fun way0 hNew => ?_);clear hHeld;have hHeld:=hNew;clear hNew;refine tkd 0 ?_;refine tkd 1 ?_;refine tkd 2 ?_;refine tkd 3 ?_;refine tkd 4 ?_;refine tkd 5 ?_;(try simp only [PPz]);refine tkm 6 rfl hHeld (fun w hSw => by have kq0:=keepC hSw q0;have kq1:=keepC hSw q1;have kt0:=keepC hSw t0;have kt1:=keepC hSw t1;go_simp <;> with_reducible rfl) ?_;(try simp only [PPz]);refine tkm 7 rfl hHeld (fun w hSw => by have kq0:=keepC hSw q0;have kq1:=keepC hSw q1;have kt0:=keepC hSw t0;have kt1:=keepC hSw t1;go_simp <;> with_reducible rfl) ?_;(try simp only [PPz]);refine tkd 8 ?_;refine tkd 9 ?_;(try simp only [PPz]);refine wpAnyH_done (by kernel_rfl) ?_ _;refine NoPanic.normal ?_;replace hR:=hR.keep hHeld;replace q0:=keepC hHeld q0;replace q1:=keepC hHeld q1;replace t0:=keepC hHeld t0;replace t1:=keepC hHeld t1;clear hHeld
    go_upto_if 46 with fail
    go_cut [1,9] (fun t u v => ∃ (Z : Option Addr) (cz : Nat),t = .slice Z lb.length cz∧lb.length ≤ cz∧IsQ w Z lb∧u = .bool (!y)∧v = way0)
    case first =>
     have hne:=HNB.out;clear HNB;(go_wp2_with fail)
     all_goals
      go_meet
      subst hne
      first
       | exact ⟨_,_,rfl,by omega,hB'.out,rfl,rfl⟩
       | exact ⟨_,_,rfl,by omega,fun h0 => absurd h0 (by omega),rfl,rfl⟩
    case rest =>
     obtain ⟨Bz,cbz,rfl,hlzB,hQB,rfl,hwz⟩:=hcut;subst hwz;refine at_worldK (fun v => Acc w w.heap.size 31 2 u7 res.length (Pc.cells2 res) v∧v.cell? ⟨bb,ob,none⟩ = some (.int .i64 q.num)∧v.cell? ⟨bb,ob + 1,none⟩ = some (.int .i64 (q.den : Int))∧v.cell? ⟨PP,0,none⟩ = some (.int .i64 q.num)∧v.cell? ⟨PP,1,none⟩ = some (.int .i64 (q.den : Int))) ⟨hR,q0,q1,t0,t1⟩ (fun V9 hS => ?_);clear hR q0 q1 t0 t1;obtain ⟨hR,q0,q1,t0,t1⟩:=hS;(go_wp2_with fail);refine (KC.out _).mono ?_;rintro e w3 ⟨rfl,hHeld⟩;replace hR:=hR.keep hHeld;replace q0:=keepC hHeld q0;replace q1:=keepC hHeld q1;replace t0:=keepC hHeld t0;replace t1:=keepC hHeld t1;clear hHeld;clear KC;have hfz:=Lib.hid (show f x (!y) = f x (!y) from rfl)
     generalize f x (!y) = z at *
     by_cases hzk : z = k
     ·subst hzk
      have SS:=Lib.hid (S1.out hfz.out.symm)
      have e0 : (z != z) = false:=by simp
      clear S1 S2 hfz;(go_wp2_with fail)
      go_roundw
      case rel =>
       exact ⟨[],lb,res,_,_,_,_,x,(!y),z,rfl,rfl,rfl,rfl,rfl,⟨hca,hlzB⟩,HAQ.out,hQB,⟨FA.out,fun r hr => FB.out r (by simp [hr])⟩, by rw [HSW.out,SS.out],by have hnb:=HNB.out;(try simp only [List.length_nil,List.length_append,List.length_cons,List.length_singleton] at hl ⊢);omega,hR⟩
      case measure =>
       have hnb:=HNB.out
       (try simp only [slen,List.length_nil,List.length_cons])
       omega
     ·have SS:=Lib.hid (S2.out (by rw [← hfz.out];exact hzk))
      have e1 : (z != k) = true:=by rw [bne_iff_ne];exact hzk
      have e2 : (z == k) = false:=by rw [beq_eq_false_iff_ne];exact hzk
      have e3 : (!(z == k)) = true:=by rw [e2];rfl
      clear S1 S2 hfz hzk;have hB0:=hR.hB
      have hln : res.length ≤ 480:=by omega
      generalize hRL' : res.length = nR at *
      have HRL:=Lib.hid hRL';clear hRL'
      go_wp2_with (at_builtin;go_loud (refine wpList_append_lies _ rfl _ _ _ rfl w.heap.size 31 i0 _ 2 16 Tryz.underlying68 HI.out HI2.out HI3.out HI4.out rfl (by omega) _ nR (Pc.cells2 res) (by rfl) (World.ownsRow.alloc hR.row _) ⟨w3.heap.size,0,none⟩ 1 1 [.int .i64 q.num,.int .i64 (q.den : Int)] (by rfl) (by rfl) (World.news_of_block (cs:=#[.int .i64 q.num,.int .i64 (q.den : Int)]) (t:=31) (fr:=(0,0)) (heap_alloc_new w3 _)) (by simp [Value.oneCell']) (by omega) (by unfold maxLen;omega) (by omega) (by simp;omega) (w3.heap.size + 1) (by simp) ?_);intro gg cap w4 hown1 hgrow hat hlt4)
      have hnew:=hR.app ((Below.refl _ w3).alloc (Nat.le_refl _) _) hown1 hgrow
      go_roundw
      case rel =>
       exact ⟨[],lb,res ++ [q],_,_,_,_,x,(!y),(!k),rfl,rfl,rfl,rfl,rfl,⟨hca,hlzB⟩,HAQ.out,hQB,⟨FA.out,fun r hr => FB.out r (by simp [hr])⟩, by rw [HSW.out,SS.out,List.append_assoc];rfl,by have hnb:=HNB.out;have hrl:=HRL.out;(try simp only [List.length_nil,List.length_append,List.length_cons,List.length_singleton] at hl ⊢);omega,by rw [Pc.cells2_app,List.length_append,HRL.out];exact hnew⟩
      case measure =>
       have hnb:=HNB.out
       (try simp only [slen,List.length_nil,List.length_cons])
       omega
  ·rcases lb with _ | ⟨q,lb⟩
   ·
    have nr:=(fun v (hv : Below w.heap.size w v) => nearest_any A B ca cb (p :: la) [] v (by simp) (hA.keep hv) (hB.keep hv) fa fb)
    try simp only [List.length_nil] at nr
    have en : Pc.near (p :: la) [] = p:=by rfl
    have eA : Pc.hit p (p :: la) = true∧Pc.off p (p :: la) = la:=by simp [Pc.hit,Pc.off]
    have eB : Pc.hit p [] = false∧Pc.off p [] = []:=by exact ⟨rfl,rfl⟩
    have s1:=fun (h : f (!x) y = k) => Pc.swp_same (f:=f) (a:=(p :: la)) (b:=[]) (x:=x) (y:=y) (k:=k) (by simp) (by rw [en,eA.1,eB.1];simpa using h)
    have s2:=fun (h : f (!x) y ≠ k) => Pc.swp_turn (f:=f) (a:=(p :: la)) (b:=[]) (x:=x) (y:=y) (k:=k) (by simp) (by rw [en,eA.1,eB.1];simpa using h)
    rw [en,eA.1,eA.2,eB.1,eB.2] at s1 s2
    simp only [Bool.xor_false,Bool.xor_true] at s1 s2
    rw [en] at nr;have NR:=Lib.hid nr;have KC:=Lib.hid (fun v => hK (!x) y v);have hcf:=HE.out (!x) y;clear en eA eB nr;have lA1 : (p :: la).length = la.length + 1:=rfl;have lA2 : decide ((0 : Int) < (((p :: la).length : Nat) : Int)) = true:=decide_eq_true (by rw [lA1];omega)
    have lA3 : 0 < (p :: la).length:=by rw [lA1];omega
    have lA4 : 1 ≤ (p :: la).length:=lA3;have lB2 : decide ((0 : Int) < (([] : List Rat).length : Int)) = false:=rfl;obtain ⟨ba,oa,rfl,p0,p1⟩:=hA.head;replace p0:=keepC hR.bb p0;replace p1:=keepC hR.bb p1;have hA':=Lib.hid hA.tail;have HAQ:=Lib.hid hA;have HBQ:=Lib.hid hB;have FA:=Lib.hid fa;have FB:=Lib.hid fb;have S1:=Lib.hid s1;have S2:=Lib.hid s2;have HSW:=Lib.hid hsw;clear hA hB fa fb s1 s2 hsw;have HNA:=Lib.hid lA1
    generalize (p :: la).length = na at *
    clear lA1;have hO:=hR.row;(go_wp2_with fail);refine (NR.out _ hR.bb).mono ?_;rintro e w1 ⟨rfl,hb1⟩;replace hR:=hR.keep hb1;replace p0:=keepC hb1 p0;replace p1:=keepC hb1 p1;clear hb1 NR hO
    go_upto_region 5 with fail
    refine at_worldQ (fun v => Acc w w.heap.size 31 2 _ res.length (Pc.cells2 res) v∧BK v w1.heap.size [.int .i64 p.num,.int .i64 (p.den : Int)]∧v.cell? ⟨ba,oa,none⟩ = some (.int .i64 p.num)∧v.cell? ⟨ba,oa + 1,none⟩ = some (.int .i64 (p.den : Int))) ⟨hR.keep (below_al (Below.refl _ _) _),BK.new w1 [.int .i64 p.num,.int .i64 (p.den : Int)] _,cell_alloc p0 _,cell_alloc p1 _⟩ (fun V hS => ?_);clear hR p0 p1;obtain ⟨hR,BP,p0,p1⟩:=hS;have t0:=BP.c 0 rfl;have t1:=BP.c 1 rfl
    generalize w1.heap.size = PP at *
    refine wp_region_noPanic ?_;refine wp_region_held_drew (S:=(Below V.heap.size V)) (by kernel_rfl) ((Below.refl _ _).drew) (fun hHeld => ?_);refine at_anyH (Below V.heap.size V) hHeld (fun wbx0 hNew => ?_);clear hHeld;have hHeld:=hNew;clear hNew;refine tkd 0 ?_;refine tkd 1 ?_;refine tkd 2 ?_;refine tkd 3 ?_;refine tkd 4 ?_;refine tkd 5 ?_;(try simp only [PPz]);refine tkm 6 rfl hHeld (fun w hSw => by have kp0:=keepC hSw p0;have kp1:=keepC hSw p1;have kt0:=keepC hSw t0;have kt1:=keepC hSw t1;go_simp <;> with_reducible rfl) ?_;(try simp only [PPz]);refine tkm 7 rfl hHeld (fun w hSw => by have kp0:=keepC hSw p0;have kp1:=keepC hSw p1;have kt0:=keepC hSw t0;have kt1:=keepC hSw t1;go_simp <;> with_reducible rfl) ?_;(try simp only [PPz]);refine tkd 8 ?_;refine tkd 9 ?_;(try simp only [PPz]);refine wpAnyH_done (by kernel_rfl) ?_ _;refine NoPanic.normal ?_;replace hR:=hR.keep hHeld;replace p0:=keepC hHeld p0;replace p1:=keepC hHeld p1;replace t0:=keepC hHeld t0;replace t1:=keepC hHeld t1;clear hHeld
    go_upto_if 32 with fail
    go_cut [0,8] (fun t u v => ∃ (Z : Option Addr) (cz : Nat),t = .slice Z la.length cz∧la.length ≤ cz∧IsQ w Z la∧u = .bool (!x)∧v = wbx0)
    case first =>
     have hne:=HNA.out;clear HNA;(go_wp2_with fail)
     all_goals
      go_meet
      subst hne
      first
       | exact ⟨_,_,rfl,by omega,hA'.out,rfl,rfl⟩
       | exact ⟨_,_,rfl,by omega,fun h0 => absurd h0 (by omega),rfl,rfl⟩
    case rest =>
     obtain ⟨Az,caz,rfl,hlzA,hQA,rfl,hwz⟩:=hcut;subst hwz;refine at_worldK (fun v => Acc w w.heap.size 31 2 u7 res.length (Pc.cells2 res) v∧v.cell? ⟨ba,oa,none⟩ = some (.int .i64 p.num)∧v.cell? ⟨ba,oa + 1,none⟩ = some (.int .i64 (p.den : Int))∧v.cell? ⟨PP,0,none⟩ = some (.int .i64 p.num)∧v.cell? ⟨PP,1,none⟩ = some (.int .i64 (p.den : Int))) ⟨hR,p0,p1,t0,t1⟩ (fun V7 hS => ?_);clear hR p0 p1 t0 t1;obtain ⟨hR,p0,p1,t0,t1⟩:=hS
     go_upto_region 7 with fail
     refine wp_region_noPanic ?_;refine wp_region_held_drew (S:=(Below V7.heap.size V7)) (by kernel_rfl) ((Below.refl _ _).drew) (fun hHeld => ?_);refine at_anyH (Below V7.heap.size V7) hHeld (fun wby0 hNew => ?_);clear hHeld;have hHeld:=hNew;clear hNew;refine tkd 0 ?_;refine tkd 1 ?_;refine tkd 2 ?_;refine tkd 3 ?_;(try simp only [PPz]);refine tkns 4 rfl hHeld ?_;(try simp only [PPz]);refine tkns 5 rfl hHeld ?_;(try simp only [PPz]);refine tkns 6 rfl hHeld ?_;(try simp only [PPz]);refine tkns 7 rfl hHeld ?_;(try simp only [PPz]);refine tkns 8 rfl hHeld ?_;(try simp only [PPz]);refine tkd 9 ?_;(try simp only [PPz]);refine wpAnyH_done (by kernel_rfl) ?_ _;refine NoPanic.normal ?_;replace hR:=hR.keep hHeld;replace p0:=keepC hHeld p0;replace p1:=keepC hHeld p1;replace t0:=keepC hHeld t0;replace t1:=keepC hHeld t1;clear hHeld;(go_wp2_with fail);refine (KC.out _).mono ?_;rintro e w3 ⟨rfl,hHeld⟩;replace hR:=hR.keep hHeld;replace p0:=keepC hHeld p0;replace p1:=keepC hHeld p1;replace t0:=keepC hHeld t0;replace t1:=keepC hHeld t1;clear hHeld;clear KC;have hfz:=Lib.hid (show f (!x) y = f (!x) y from rfl)
     generalize f (!x) y = z at *
     by_cases hzk : z = k
     ·subst hzk
      have SS:=Lib.hid (S1.out hfz.out.symm)
      have e0 : (z != z) = false:=by simp
      clear S1 S2 hfz;(go_wp2_with fail)
      go_roundw
      case rel =>
       exact ⟨la,[],res,_,_,_,_,(!x),y,z,rfl,rfl,rfl,rfl,rfl,⟨hlzA,hcb⟩,hQA,HBQ.out,⟨fun r hr => FA.out r (by simp [hr]),FB.out⟩, by rw [HSW.out,SS.out],by have hna:=HNA.out;(try simp only [List.length_nil,List.length_append,List.length_cons,List.length_singleton] at hl ⊢);omega,hR⟩
      case measure =>
       have hna:=HNA.out
       (try simp only [slen,List.length_nil,List.length_cons])
       omega
     ·have SS:=Lib.hid (S2.out (by rw [← hfz.out];exact hzk))
      have e1 : (z != k) = true:=by rw [bne_iff_ne];exact hzk
      have e2 : (z == k) = false:=by rw [beq_eq_false_iff_ne];exact hzk
      have e3 : (!(z == k)) = true:=by rw [e2];rfl
      clear S1 S2 hfz hzk;have hB0:=hR.hB
      have hln : res.length ≤ 480:=by omega
      generalize hRL' : res.length = nR at *
      have HRL:=Lib.hid hRL';clear hRL'
      go_wp2_with (at_builtin;go_loud (refine wpList_append_lies _ rfl _ _ _ rfl w.heap.size 31 i0 _ 2 16 Tryz.underlying68 HI.out HI2.out HI3.out HI4.out rfl (by omega) _ nR (Pc.cells2 res) (by rfl) (World.ownsRow.alloc hR.row _) ⟨w3.heap.size,0,none⟩ 1 1 [.int .i64 p.num,.int .i64 (p.den : Int)] (by rfl) (by rfl) (World.news_of_block (cs:=#[.int .i64 p.num,.int .i64 (p.den : Int)]) (t:=31) (fr:=(0,0)) (heap_alloc_new w3 _)) (by simp [Value.oneCell']) (by omega) (by unfold maxLen;omega) (by omega) (by simp;omega) (w3.heap.size + 1) (by simp) ?_);intro gg cap w4 hown1 hgrow hat hlt4)
      have hnew:=hR.app ((Below.refl _ w3).alloc (Nat.le_refl _) _) hown1 hgrow
      go_roundw
      case rel =>
       exact ⟨la,[],res ++ [p],_,_,_,_,(!x),y,(!k),rfl,rfl,rfl,rfl,rfl,⟨hlzA,hcb⟩,hQA,HBQ.out,⟨fun r hr => FA.out r (by simp [hr]),FB.out⟩, by rw [HSW.out,SS.out,List.append_assoc];rfl,by have hna:=HNA.out;have hrl:=HRL.out;(try simp only [List.length_nil,List.length_append,List.length_cons,List.length_singleton] at hl ⊢);omega,by rw [Pc.cells2_app,List.length_append,HRL.out];exact hnew⟩
      case measure =>
       have hna:=HNA.out
       (try simp only [slen,List.length_nil,List.length_cons])
       omega
   ·by_cases hlt : q < p
    ·
     have HNE:=Lib.hid (show p ≠ q by grind);have nr:=(fun v (hv : Below w.heap.size w v) => nearest_any A B ca cb (p :: la) (q :: lb) v (by simp) (hA.keep hv) (hB.keep hv) fa fb)
     try simp only [List.length_nil] at nr
     have en : Pc.near (p :: la) (q :: lb) = q:=by unfold Pc.near;exact if_pos hlt
     have eA : Pc.hit q (p :: la) = false∧Pc.off q (p :: la) = (p :: la):=by have hx : p ≠ q:=(by grind);simp [Pc.hit,Pc.off,hx]
     have eB : Pc.hit q (q :: lb) = true∧Pc.off q (q :: lb) = lb:=by simp [Pc.hit,Pc.off]
     have s1:=fun (h : f x (!y) = k) => Pc.swp_same (f:=f) (a:=(p :: la)) (b:=(q :: lb)) (x:=x) (y:=y) (k:=k) (by simp) (by rw [en,eA.1,eB.1];simpa using h)
     have s2:=fun (h : f x (!y) ≠ k) => Pc.swp_turn (f:=f) (a:=(p :: la)) (b:=(q :: lb)) (x:=x) (y:=y) (k:=k) (by simp) (by rw [en,eA.1,eB.1];simpa using h)
     rw [en,eA.1,eA.2,eB.1,eB.2] at s1 s2
     simp only [Bool.xor_false,Bool.xor_true] at s1 s2
     rw [en] at nr;have NR:=Lib.hid nr;have KC:=Lib.hid (fun v => hK x (!y) v);have hcf:=HE.out x (!y);clear en eA eB nr;have lA1 : (p :: la).length = la.length + 1:=rfl;have lA2 : decide ((0 : Int) < (((p :: la).length : Nat) : Int)) = true:=decide_eq_true (by rw [lA1];omega)
     have lA3 : 0 < (p :: la).length:=by rw [lA1];omega
     have lA4 : 1 ≤ (p :: la).length:=lA3;have lB1 : (q :: lb).length = lb.length + 1:=rfl;have lB2 : decide ((0 : Int) < (((q :: lb).length : Nat) : Int)) = true:=decide_eq_true (by rw [lB1];omega)
     have lB3 : 0 < (q :: lb).length:=by rw [lB1];omega
     have lB4 : 1 ≤ (q :: lb).length:=lB3;obtain ⟨ba,oa,rfl,p0,p1⟩:=hA.head;replace p0:=keepC hR.bb p0;replace p1:=keepC hR.bb p1;have hA':=Lib.hid hA.tail;obtain ⟨bb,ob,rfl,q0,q1⟩:=hB.head;replace q0:=keepC hR.bb q0;replace q1:=keepC hR.bb q1;have hB':=Lib.hid hB.tail;have HAQ:=Lib.hid hA;have HBQ:=Lib.hid hB;have FA:=Lib.hid fa;have FB:=Lib.hid fb;have S1:=Lib.hid s1;have S2:=Lib.hid s2;have HSW:=Lib.hid hsw;clear hA hB fa fb s1 s2 hsw;have HNA:=Lib.hid lA1
     generalize (p :: la).length = na at *
     clear lA1;have HNB:=Lib.hid lB1
     generalize (q :: lb).length = nb at *
     clear lB1;have hO:=hR.row;(go_wp2_with fail);refine (NR.out _ hR.bb).mono ?_;rintro e w1 ⟨rfl,hb1⟩;replace hR:=hR.keep hb1;replace p0:=keepC hb1 p0;replace p1:=keepC hb1 p1;replace q0:=keepC hb1 q0;replace q1:=keepC hb1 q1;clear hb1 NR hO
     go_upto_region 5 with fail
     refine at_worldQ (fun v => Acc w w.heap.size 31 2 _ res.length (Pc.cells2 res) v∧BK v w1.heap.size [.int .i64 q.num,.int .i64 (q.den : Int)]∧v.cell? ⟨ba,oa,none⟩ = some (.int .i64 p.num)∧v.cell? ⟨ba,oa + 1,none⟩ = some (.int .i64 (p.den : Int))∧v.cell? ⟨bb,ob,none⟩ = some (.int .i64 q.num)∧v.cell? ⟨bb,ob + 1,none⟩ = some (.int .i64 (q.den : Int))) ⟨hR.keep (below_al (Below.refl _ _) _),BK.new w1 [.int .i64 q.num,.int .i64 (q.den : Int)] _,cell_alloc p0 _,cell_alloc p1 _,cell_alloc q0 _,cell_alloc q1 _⟩ (fun V hS => ?_);clear hR p0 p1 q0 q1;obtain ⟨hR,BP,p0,p1,q0,q1⟩:=hS;have t0:=BP.c 0 rfl;have t1:=BP.c 1 rfl
     generalize w1.heap.size = PP at *
     refine wp_region_noPanic ?_;refine wp_region_held_drew (S:=(Below V.heap.size V)) (by kernel_rfl) ((Below.refl _ _).drew) (fun hHeld => ?_);refine at_anyH (Below V.heap.size V) hHeld (fun wcx0 hNew => ?_);clear hHeld;have hHeld:=hNew;clear hNew;refine tkd 0 ?_;refine tkd 1 ?_;refine tkd 2 ?_;refine tkd 3 ?_;refine tkd 4 ?_;refine tkd 5 ?_;(try simp only [PPz]);refine tkm 6 rfl hHeld (fun w hSw => by have kp0:=keepC hSw p0;have kp1:=keepC hSw p1;have kq0:=keepC hSw q0;have kq1:=keepC hSw q1;have kt0:=keepC hSw t0;have kt1:=keepC hSw t1;go_simp <;> with_reducible rfl) ?_;(try simp only [PPz]);refine tkm 7 rfl hHeld (fun w hSw => by have kp0:=keepC hSw p0;have kp1:=keepC hSw p1;have kq0:=keepC hSw q0;have kq1:=keepC hSw q1;have kt0:=keepC hSw t0;have kt1:=keepC hSw t1;go_simp <;> with_reducible rfl) ?_;(try simp only [PPz]);refine tkn 8 (.bool false) rfl ?_ hHeld ?_
     ·intro w hSw
      go_simp
      exact fun h1 => Pc.den_ne HNE.out h1
     (try simp only [PPz]);refine tkd 9 ?_;(try simp only [PPz]);refine wpAnyH_done (by kernel_rfl) ?_ _;refine NoPanic.normal ?_;replace hR:=hR.keep hHeld;replace p0:=keepC hHeld p0;replace p1:=keepC hHeld p1;replace q0:=keepC hHeld q0;replace q1:=keepC hHeld q1;replace t0:=keepC hHeld t0;replace t1:=keepC hHeld t1;clear hHeld
     go_upto_region 7 with fail
     refine wp_region_noPanic ?_;refine wp_region_held_drew (S:=(Below wcx0.heap.size wcx0)) (by kernel_rfl) ((Below.refl _ _).drew) (fun hHeld => ?_);refine at_anyH (Below wcx0.heap.size wcx0) hHeld (fun wcy0 hNew => ?_);clear hHeld;have hHeld:=hNew;clear hNew;refine tkd 0 ?_;refine tkd 1 ?_;refine tkd 2 ?_;refine tkd 3 ?_;refine tkd 4 ?_;refine tkd 5 ?_;(try simp only [PPz]);refine tkm 6 rfl hHeld (fun w hSw => by have kp0:=keepC hSw p0;have kp1:=keepC hSw p1;have kq0:=keepC hSw q0;have kq1:=keepC hSw q1;have kt0:=keepC hSw t0;have kt1:=keepC hSw t1;go_simp <;> with_reducible rfl) ?_;(try simp only [PPz]);refine tkm 7 rfl hHeld (fun w hSw => by have kp0:=keepC hSw p0;have kp1:=keepC hSw p1;have kq0:=keepC hSw q0;have kq1:=keepC hSw q1;have kt0:=keepC hSw t0;have kt1:=keepC hSw t1;go_simp <;> with_reducible rfl) ?_;(try simp only [PPz]);refine tkd 8 ?_;refine tkd 9 ?_;(try simp only [PPz]);refine wpAnyH_done (by kernel_rfl) ?_ _;refine NoPanic.normal ?_;replace hR:=hR.keep hHeld;replace p0:=keepC hHeld p0;replace p1:=keepC hHeld p1;replace q0:=keepC hHeld q0;replace q1:=keepC hHeld q1;replace t0:=keepC hHeld t0;replace t1:=keepC hHeld t1;clear hHeld
     go_upto_if 46 with fail
     go_cut [1,9] (fun t u v => ∃ (Z : Option Addr) (cz : Nat),t = .slice Z lb.length cz∧lb.length ≤ cz∧IsQ w Z lb∧u = .bool (!y)∧v = wcy0)
     case first =>
      have hne:=HNB.out;clear HNB;(go_wp2_with fail)
      all_goals
       go_meet
       subst hne
       first
        | exact ⟨_,_,rfl,by omega,hB'.out,rfl,rfl⟩
        | exact ⟨_,_,rfl,by omega,fun h0 => absurd h0 (by omega),rfl,rfl⟩
     case rest =>
      obtain ⟨Bz,cbz,rfl,hlzB,hQB,rfl,hwz⟩:=hcut;subst hwz;refine at_worldK (fun v => Acc w w.heap.size 31 2 u7 res.length (Pc.cells2 res) v∧v.cell? ⟨ba,oa,none⟩ = some (.int .i64 p.num)∧v.cell? ⟨ba,oa + 1,none⟩ = some (.int .i64 (p.den : Int))∧v.cell? ⟨bb,ob,none⟩ = some (.int .i64 q.num)∧v.cell? ⟨bb,ob + 1,none⟩ = some (.int .i64 (q.den : Int))∧v.cell? ⟨PP,0,none⟩ = some (.int .i64 q.num)∧v.cell? ⟨PP,1,none⟩ = some (.int .i64 (q.den : Int))) ⟨hR,p0,p1,q0,q1,t0,t1⟩ (fun V9 hS => ?_);clear hR p0 p1 q0 q1 t0 t1;obtain ⟨hR,p0,p1,q0,q1,t0,t1⟩:=hS;(go_wp2_with fail);refine (KC.out _).mono ?_;rintro e w3 ⟨rfl,hHeld⟩;replace hR:=hR.keep hHeld;replace p0:=keepC hHeld p0;replace p1:=keepC hHeld p1;replace q0:=keepC hHeld q0;replace q1:=keepC hHeld q1;replace t0:=keepC hHeld t0;replace t1:=keepC hHeld t1;clear hHeld;clear KC;have hfz:=Lib.hid (show f x (!y) = f x (!y) from rfl)
      generalize f x (!y) = z at *
      by_cases hzk : z = k
      ·subst hzk
       have SS:=Lib.hid (S1.out hfz.out.symm)
       have e0 : (z != z) = false:=by simp
       clear S1 S2 hfz;(go_wp2_with fail)
       go_roundw
       case rel =>
        have hna9:=HNA.out;subst hna9;exact ⟨(p :: la),lb,res,_,_,_,_,x,(!y),z,rfl,rfl,rfl,rfl,rfl,⟨(by have hna:=HNA.out;rw [List.length_cons];omega),hlzB⟩,HAQ.out,hQB,⟨FA.out,fun r hr => FB.out r (by simp [hr])⟩, by rw [HSW.out,SS.out],by have hna:=HNA.out;have hnb:=HNB.out;(try simp only [List.length_nil,List.length_append,List.length_cons,List.length_singleton] at hl ⊢);omega,hR⟩
       case measure =>
        have hna:=HNA.out;have hnb:=HNB.out
        (try simp only [slen,List.length_nil,List.length_cons])
        omega
      ·have SS:=Lib.hid (S2.out (by rw [← hfz.out];exact hzk))
       have e1 : (z != k) = true:=by rw [bne_iff_ne];exact hzk
       have e2 : (z == k) = false:=by rw [beq_eq_false_iff_ne];exact hzk
       have e3 : (!(z == k)) = true:=by rw [e2];rfl
       clear S1 S2 hfz hzk;have hB0:=hR.hB
       have hln : res.length ≤ 480:=by omega
       generalize hRL' : res.length = nR at *
       have HRL:=Lib.hid hRL';clear hRL'
       go_wp2_with (at_builtin;go_loud (refine wpList_append_lies _ rfl _ _ _ rfl w.heap.size 31 i0 _ 2 16 Tryz.underlying68 HI.out HI2.out HI3.out HI4.out rfl (by omega) _ nR (Pc.cells2 res) (by rfl) (World.ownsRow.alloc hR.row _) ⟨w3.heap.size,0,none⟩ 1 1 [.int .i64 q.num,.int .i64 (q.den : Int)] (by rfl) (by rfl) (World.news_of_block (cs:=#[.int .i64 q.num,.int .i64 (q.den : Int)]) (t:=31) (fr:=(0,0)) (heap_alloc_new w3 _)) (by simp [Value.oneCell']) (by omega) (by unfold maxLen;omega) (by omega) (by simp;omega) (w3.heap.size + 1) (by simp) ?_);intro gg cap w4 hown1 hgrow hat hlt4)
       have hnew:=hR.app ((Below.refl _ w3).alloc (Nat.le_refl _) _) hown1 hgrow
       go_roundw
       case rel =>
        have hna9:=HNA.out;subst hna9;exact ⟨(p :: la),lb,res ++ [q],_,_,_,_,x,(!y),(!k),rfl,rfl,rfl,rfl,rfl,⟨(by have hna:=HNA.out;rw [List.length_cons];omega),hlzB⟩,HAQ.out,hQB,⟨FA.out,fun r hr => FB.out r (by simp [hr])⟩, by rw [HSW.out,SS.out,List.append_assoc];rfl,by have hna:=HNA.out;have hnb:=HNB.out;have hrl:=HRL.out;(try simp only [List.length_nil,List.length_append,List.length_cons,List.length_singleton] at hl ⊢);omega,by rw [Pc.cells2_app,List.length_append,HRL.out];exact hnew⟩
       case measure =>
        have hna:=HNA.out;have hnb:=HNB.out
        (try simp only [slen,List.length_nil,List.length_cons])
        omega
    ·by_cases heq : p = q
     ·subst heq
      have nr:=(fun v (hv : Below w.heap.size w v) => nearest_any A B ca cb (p :: la) (p :: lb) v (by simp) (hA.keep hv) (hB.keep hv) fa fb)
      try simp only [List.length_nil] at nr
      have en : Pc.near (p :: la) (p :: lb) = p:=by unfold Pc.near;exact if_neg (by grind)
      have eA : Pc.hit p (p :: la) = true∧Pc.off p (p :: la) = la:=by simp [Pc.hit,Pc.off]
      have eB : Pc.hit p (p :: lb) = true∧Pc.off p (p :: lb) = lb:=by simp [Pc.hit,Pc.off]
      have s1:=fun (h : f (!x) (!y) = k) => Pc.swp_same (f:=f) (a:=(p :: la)) (b:=(p :: lb)) (x:=x) (y:=y) (k:=k) (by simp) (by rw [en,eA.1,eB.1];simpa using h)
      have s2:=fun (h : f (!x) (!y) ≠ k) => Pc.swp_turn (f:=f) (a:=(p :: la)) (b:=(p :: lb)) (x:=x) (y:=y) (k:=k) (by simp) (by rw [en,eA.1,eB.1];simpa using h)
      rw [en,eA.1,eA.2,eB.1,eB.2] at s1 s2
      simp only [Bool.xor_false,Bool.xor_true] at s1 s2
      rw [en] at nr;have NR:=Lib.hid nr;have KC:=Lib.hid (fun v => hK (!x) (!y) v);have hcf:=HE.out (!x) (!y);clear en eA eB nr;have lA1 : (p :: la).length = la.length + 1:=rfl;have lA2 : decide ((0 : Int) < (((p :: la).length : Nat) : Int)) = true:=decide_eq_true (by rw [lA1];omega)
      have lA3 : 0 < (p :: la).length:=by rw [lA1];omega
      have lA4 : 1 ≤ (p :: la).length:=lA3;have lB1 : (p :: lb).length = lb.length + 1:=rfl;have lB2 : decide ((0 : Int) < (((p :: lb).length : Nat) : Int)) = true:=decide_eq_true (by rw [lB1];omega)
      have lB3 : 0 < (p :: lb).length:=by rw [lB1];omega
      have lB4 : 1 ≤ (p :: lb).length:=lB3;obtain ⟨ba,oa,rfl,p0,p1⟩:=hA.head;replace p0:=keepC hR.bb p0;replace p1:=keepC hR.bb p1;have hA':=Lib.hid hA.tail;obtain ⟨bb,ob,rfl,q0,q1⟩:=hB.head;replace q0:=keepC hR.bb q0;replace q1:=keepC hR.bb q1;have hB':=Lib.hid hB.tail;have HAQ:=Lib.hid hA;have HBQ:=Lib.hid hB;have FA:=Lib.hid fa;have FB:=Lib.hid fb;have S1:=Lib.hid s1;have S2:=Lib.hid s2;have HSW:=Lib.hid hsw;clear hA hB fa fb s1 s2 hsw;have HNA:=Lib.hid lA1
      generalize (p :: la).length = na at *
      clear lA1;have HNB:=Lib.hid lB1
      generalize (p :: lb).length = nb at *
      clear lB1;have hO:=hR.row;(go_wp2_with fail);refine (NR.out _ hR.bb).mono ?_;rintro e w1 ⟨rfl,hb1⟩;replace hR:=hR.keep hb1;replace p0:=keepC hb1 p0;replace p1:=keepC hb1 p1;replace q0:=keepC hb1 q0;replace q1:=keepC hb1 q1;clear hb1 NR hO
      go_upto_region 5 with fail
      refine at_worldQ (fun v => Acc w w.heap.size 31 2 _ res.length (Pc.cells2 res) v∧BK v w1.heap.size [.int .i64 p.num,.int .i64 (p.den : Int)]∧v.cell? ⟨ba,oa,none⟩ = some (.int .i64 p.num)∧v.cell? ⟨ba,oa + 1,none⟩ = some (.int .i64 (p.den : Int))∧v.cell? ⟨bb,ob,none⟩ = some (.int .i64 p.num)∧v.cell? ⟨bb,ob + 1,none⟩ = some (.int .i64 (p.den : Int))) ⟨hR.keep (below_al (Below.refl _ _) _),BK.new w1 [.int .i64 p.num,.int .i64 (p.den : Int)] _,cell_alloc p0 _,cell_alloc p1 _,cell_alloc q0 _,cell_alloc q1 _⟩ (fun V hS => ?_);clear hR p0 p1 q0 q1;obtain ⟨hR,BP,p0,p1,q0,q1⟩:=hS;have t0:=BP.c 0 rfl;have t1:=BP.c 1 rfl
      generalize w1.heap.size = PP at *
      refine wp_region_noPanic ?_;refine wp_region_held_drew (S:=(Below V.heap.size V)) (by kernel_rfl) ((Below.refl _ _).drew) (fun hHeld => ?_);refine at_anyH (Below V.heap.size V) hHeld (fun wex0 hNew => ?_);clear hHeld;have hHeld:=hNew;clear hNew;refine tkd 0 ?_;refine tkd 1 ?_;refine tkd 2 ?_;refine tkd 3 ?_;refine tkd 4 ?_;refine tkd 5 ?_;(try simp only [PPz]);refine tkm 6 rfl hHeld (fun w hSw => by have kp0:=keepC hSw p0;have kp1:=keepC hSw p1;have kq0:=keepC hSw q0;have kq1:=keepC hSw q1;have kt0:=keepC hSw t0;have kt1:=keepC hSw t1;go_simp <;> with_reducible rfl) ?_;(try simp only [PPz]);refine tkm 7 rfl hHeld (fun w hSw => by have kp0:=keepC hSw p0;have kp1:=keepC hSw p1;have kq0:=keepC hSw q0;have kq1:=keepC hSw q1;have kt0:=keepC hSw t0;have kt1:=keepC hSw t1;go_simp <;> with_reducible rfl) ?_;(try simp only [PPz]);refine tkd 8 ?_;refine tkd 9 ?_;(try simp only [PPz]);refine wpAnyH_done (by kernel_rfl) ?_ _;refine NoPanic.normal ?_;replace hR:=hR.keep hHeld;replace p0:=keepC hHeld p0;replace p1:=keepC hHeld p1;replace q0:=keepC hHeld q0;replace q1:=keepC hHeld q1;replace t0:=keepC hHeld t0;replace t1:=keepC hHeld t1;clear hHeld
      go_upto_if 32 with fail
      go_cut [0,8] (fun t u v => ∃ (Z : Option Addr) (cz : Nat),t = .slice Z la.length cz∧la.length ≤ cz∧IsQ w Z la∧u = .bool (!x)∧v = wex0)
      case first =>
       have hne:=HNA.out;clear HNA;(go_wp2_with fail)
       all_goals
        go_meet
        subst hne
        first
         | exact ⟨_,_,rfl,by omega,hA'.out,rfl,rfl⟩
         | exact ⟨_,_,rfl,by omega,fun h0 => absurd h0 (by omega),rfl,rfl⟩
      case rest =>
       obtain ⟨Az,caz,rfl,hlzA,hQA,rfl,hwz⟩:=hcut;subst hwz;refine at_worldK (fun v => Acc w w.heap.size 31 2 u7 res.length (Pc.cells2 res) v∧v.cell? ⟨ba,oa,none⟩ = some (.int .i64 p.num)∧v.cell? ⟨ba,oa + 1,none⟩ = some (.int .i64 (p.den : Int))∧v.cell? ⟨bb,ob,none⟩ = some (.int .i64 p.num)∧v.cell? ⟨bb,ob + 1,none⟩ = some (.int .i64 (p.den : Int))∧v.cell? ⟨PP,0,none⟩ = some (.int .i64 p.num)∧v.cell? ⟨PP,1,none⟩ = some (.int .i64 (p.den : Int))) ⟨hR,p0,p1,q0,q1,t0,t1⟩ (fun V7 hS => ?_);clear hR p0 p1 q0 q1 t0 t1;obtain ⟨hR,p0,p1,q0,q1,t0,t1⟩:=hS
       go_upto_region 7 with fail
       refine wp_region_noPanic ?_;refine wp_region_held_drew (S:=(Below V7.heap.size V7)) (by kernel_rfl) ((Below.refl _ _).drew) (fun hHeld => ?_);refine at_anyH (Below V7.heap.size V7) hHeld (fun wey0 hNew => ?_);clear hHeld;have hHeld:=hNew;clear hNew;refine tkd 0 ?_;refine tkd 1 ?_;refine tkd 2 ?_;refine tkd 3 ?_;refine tkd 4 ?_;refine tkd 5 ?_;(try simp only [PPz]);refine tkm 6 rfl hHeld (fun w hSw => by have kp0:=keepC hSw p0;have kp1:=keepC hSw p1;have kq0:=keepC hSw q0;have kq1:=keepC hSw q1;have kt0:=keepC hSw t0;have kt1:=keepC hSw t1;go_simp <;> with_reducible rfl) ?_;(try simp only [PPz]);refine tkm 7 rfl hHeld (fun w hSw => by have kp0:=keepC hSw p0;have kp1:=keepC hSw p1;have kq0:=keepC hSw q0;have kq1:=keepC hSw q1;have kt0:=keepC hSw t0;have kt1:=keepC hSw t1;go_simp <;> with_reducible rfl) ?_;(try simp only [PPz]);refine tkd 8 ?_;refine tkd 9 ?_;(try simp only [PPz]);refine wpAnyH_done (by kernel_rfl) ?_ _;refine NoPanic.normal ?_;replace hR:=hR.keep hHeld;replace p0:=keepC hHeld p0;replace p1:=keepC hHeld p1;replace q0:=keepC hHeld q0;replace q1:=keepC hHeld q1;replace t0:=keepC hHeld t0;replace t1:=keepC hHeld t1;clear hHeld
       go_upto_if 46 with fail
       go_cut [1,9] (fun t u v => ∃ (Z : Option Addr) (cz : Nat),t = .slice Z lb.length cz∧lb.length ≤ cz∧IsQ w Z lb∧u = .bool (!y)∧v = wey0)
       case first =>
        have hne:=HNB.out;clear HNB;(go_wp2_with fail)
        all_goals
         go_meet
         subst hne
         first
          | exact ⟨_,_,rfl,by omega,hB'.out,rfl,rfl⟩
          | exact ⟨_,_,rfl,by omega,fun h0 => absurd h0 (by omega),rfl,rfl⟩
       case rest =>
        obtain ⟨Bz,cbz,rfl,hlzB,hQB,rfl,hwz⟩:=hcut;subst hwz;refine at_worldK (fun v => Acc w w.heap.size 31 2 u7 res.length (Pc.cells2 res) v∧v.cell? ⟨ba,oa,none⟩ = some (.int .i64 p.num)∧v.cell? ⟨ba,oa + 1,none⟩ = some (.int .i64 (p.den : Int))∧v.cell? ⟨bb,ob,none⟩ = some (.int .i64 p.num)∧v.cell? ⟨bb,ob + 1,none⟩ = some (.int .i64 (p.den : Int))∧v.cell? ⟨PP,0,none⟩ = some (.int .i64 p.num)∧v.cell? ⟨PP,1,none⟩ = some (.int .i64 (p.den : Int))) ⟨hR,p0,p1,q0,q1,t0,t1⟩ (fun V9 hS => ?_);clear hR p0 p1 q0 q1 t0 t1;obtain ⟨hR,p0,p1,q0,q1,t0,t1⟩:=hS;(go_wp2_with fail);refine (KC.out _).mono ?_;rintro e w3 ⟨rfl,hHeld⟩;replace hR:=hR.keep hHeld;replace p0:=keepC hHeld p0;replace p1:=keepC hHeld p1;replace q0:=keepC hHeld q0;replace q1:=keepC hHeld q1;replace t0:=keepC hHeld t0;replace t1:=keepC hHeld t1;clear hHeld;clear KC;have hfz:=Lib.hid (show f (!x) (!y) = f (!x) (!y) from rfl)
        generalize f (!x) (!y) = z at *
        by_cases hzk : z = k
        ·subst hzk
         have SS:=Lib.hid (S1.out hfz.out.symm)
         have e0 : (z != z) = false:=by simp
         clear S1 S2 hfz;(go_wp2_with fail)
         go_roundw
         case rel =>
          exact ⟨la,lb,res,_,_,_,_,(!x),(!y),z,rfl,rfl,rfl,rfl,rfl,⟨hlzA,hlzB⟩,hQA,hQB,⟨fun r hr => FA.out r (by simp [hr]),fun r hr => FB.out r (by simp [hr])⟩, by rw [HSW.out,SS.out],by have hna:=HNA.out;have hnb:=HNB.out;(try simp only [List.length_nil,List.length_append,List.length_cons,List.length_singleton] at hl ⊢);omega,hR⟩
         case measure =>
          have hna:=HNA.out;have hnb:=HNB.out
          (try simp only [slen,List.length_nil,List.length_cons])
          omega
        ·have SS:=Lib.hid (S2.out (by rw [← hfz.out];exact hzk))
         have e1 : (z != k) = true:=by rw [bne_iff_ne];exact hzk
         have e2 : (z == k) = false:=by rw [beq_eq_false_iff_ne];exact hzk
         have e3 : (!(z == k)) = true:=by rw [e2];rfl
         clear S1 S2 hfz hzk;have hB0:=hR.hB
         have hln : res.length ≤ 480:=by omega
         generalize hRL' : res.length = nR at *
         have HRL:=Lib.hid hRL';clear hRL'
         go_wp2_with (at_builtin;go_loud (refine wpList_append_lies _ rfl _ _ _ rfl w.heap.size 31 i0 _ 2 16 Tryz.underlying68 HI.out HI2.out HI3.out HI4.out rfl (by omega) _ nR (Pc.cells2 res) (by rfl) (World.ownsRow.alloc hR.row _) ⟨w3.heap.size,0,none⟩ 1 1 [.int .i64 p.num,.int .i64 (p.den : Int)] (by rfl) (by rfl) (World.news_of_block (cs:=#[.int .i64 p.num,.int .i64 (p.den : Int)]) (t:=31) (fr:=(0,0)) (heap_alloc_new w3 _)) (by simp [Value.oneCell']) (by omega) (by unfold maxLen;omega) (by omega) (by simp;omega) (w3.heap.size + 1) (by simp) ?_);intro gg cap w4 hown1 hgrow hat hlt4)
         have hnew:=hR.app ((Below.refl _ w3).alloc (Nat.le_refl _) _) hown1 hgrow
         go_roundw
         case rel =>
          exact ⟨la,lb,res ++ [p],_,_,_,_,(!x),(!y),(!k),rfl,rfl,rfl,rfl,rfl,⟨hlzA,hlzB⟩,hQA,hQB,⟨fun r hr => FA.out r (by simp [hr]),fun r hr => FB.out r (by simp [hr])⟩, by rw [HSW.out,SS.out,List.append_assoc];rfl,by have hna:=HNA.out;have hnb:=HNB.out;have hrl:=HRL.out;(try simp only [List.length_nil,List.length_append,List.length_cons,List.length_singleton] at hl ⊢);omega,by rw [Pc.cells2_app,List.length_append,HRL.out];exact hnew⟩
         case measure =>
          have hna:=HNA.out;have hnb:=HNB.out
          (try simp only [slen,List.length_nil,List.length_cons])
          omega
     ·have hpq : p < q:=by grind
      have HNE:=Lib.hid (show p ≠ q by grind);have nr:=(fun v (hv : Below w.heap.size w v) => nearest_any A B ca cb (p :: la) (q :: lb) v (by simp) (hA.keep hv) (hB.keep hv) fa fb)
      try simp only [List.length_nil] at nr
      have en : Pc.near (p :: la) (q :: lb) = p:=by unfold Pc.near;exact if_neg (by grind)
      have eA : Pc.hit p (p :: la) = true∧Pc.off p (p :: la) = la:=by simp [Pc.hit,Pc.off]
      have eB : Pc.hit p (q :: lb) = false∧Pc.off p (q :: lb) = (q :: lb):=by have hx : q ≠ p:=(by grind);simp [Pc.hit,Pc.off,hx]
      have s1:=fun (h : f (!x) y = k) => Pc.swp_same (f:=f) (a:=(p :: la)) (b:=(q :: lb)) (x:=x) (y:=y) (k:=k) (by simp) (by rw [en,eA.1,eB.1];simpa using h)
      have s2:=fun (h : f (!x) y ≠ k) => Pc.swp_turn (f:=f) (a:=(p :: la)) (b:=(q :: lb)) (x:=x) (y:=y) (k:=k) (by simp) (by rw [en,eA.1,eB.1];simpa using h)
      rw [en,eA.1,eA.2,eB.1,eB.2] at s1 s2
      simp only [Bool.xor_false,Bool.xor_true] at s1 s2
      rw [en] at nr;have NR:=Lib.hid nr;have KC:=Lib.hid (fun v => hK (!x) y v);have hcf:=HE.out (!x) y;clear en eA eB nr;have lA1 : (p :: la).length = la.length + 1:=rfl;have lA2 : decide ((0 : Int) < (((p :: la).length : Nat) : Int)) = true:=decide_eq_true (by rw [lA1];omega)
      have lA3 : 0 < (p :: la).length:=by rw [lA1];omega
      have lA4 : 1 ≤ (p :: la).length:=lA3;have lB1 : (q :: lb).length = lb.length + 1:=rfl;have lB2 : decide ((0 : Int) < (((q :: lb).length : Nat) : Int)) = true:=decide_eq_true (by rw [lB1];omega)
      have lB3 : 0 < (q :: lb).length:=by rw [lB1];omega
      have lB4 : 1 ≤ (q :: lb).length:=lB3;obtain ⟨ba,oa,rfl,p0,p1⟩:=hA.head;replace p0:=keepC hR.bb p0;replace p1:=keepC hR.bb p1;have hA':=Lib.hid hA.tail;obtain ⟨bb,ob,rfl,q0,q1⟩:=hB.head;replace q0:=keepC hR.bb q0;replace q1:=keepC hR.bb q1;have hB':=Lib.hid hB.tail;have HAQ:=Lib.hid hA;have HBQ:=Lib.hid hB;have FA:=Lib.hid fa;have FB:=Lib.hid fb;have S1:=Lib.hid s1;have S2:=Lib.hid s2;have HSW:=Lib.hid hsw;clear hA hB fa fb s1 s2 hsw;have HNA:=Lib.hid lA1
      generalize (p :: la).length = na at *
      clear lA1;have HNB:=Lib.hid lB1
      generalize (q :: lb).length = nb at *
      clear lB1;have hO:=hR.row;(go_wp2_with fail);refine (NR.out _ hR.bb).mono ?_;rintro e w1 ⟨rfl,hb1⟩;replace hR:=hR.keep hb1;replace p0:=keepC hb1 p0;replace p1:=keepC hb1 p1;replace q0:=keepC hb1 q0;replace q1:=keepC hb1 q1;clear hb1 NR hO
      go_upto_region 5 with fail
      refine at_worldQ (fun v => Acc w w.heap.size 31 2 _ res.length (Pc.cells2 res) v∧BK v w1.heap.size [.int .i64 p.num,.int .i64 (p.den : Int)]∧v.cell? ⟨ba,oa,none⟩ = some (.int .i64 p.num)∧v.cell? ⟨ba,oa + 1,none⟩ = some (.int .i64 (p.den : Int))∧v.cell? ⟨bb,ob,none⟩ = some (.int .i64 q.num)∧v.cell? ⟨bb,ob + 1,none⟩ = some (.int .i64 (q.den : Int))) ⟨hR.keep (below_al (Below.refl _ _) _),BK.new w1 [.int .i64 p.num,.int .i64 (p.den : Int)] _,cell_alloc p0 _,cell_alloc p1 _,cell_alloc q0 _,cell_alloc q1 _⟩ (fun V hS => ?_);clear hR p0 p1 q0 q1;obtain ⟨hR,BP,p0,p1,q0,q1⟩:=hS;have t0:=BP.c 0 rfl;have t1:=BP.c 1 rfl
      generalize w1.heap.size = PP at *
      refine wp_region_noPanic ?_;refine wp_region_held_drew (S:=(Below V.heap.size V)) (by kernel_rfl) ((Below.refl _ _).drew) (fun hHeld => ?_);refine at_anyH (Below V.heap.size V) hHeld (fun wdx0 hNew => ?_);clear hHeld;have hHeld:=hNew;clear hNew;refine tkd 0 ?_;refine tkd 1 ?_;refine tkd 2 ?_;refine tkd 3 ?_;refine tkd 4 ?_;refine tkd 5 ?_;(try simp only [PPz]);refine tkm 6 rfl hHeld (fun w hSw => by have kp0:=keepC hSw p0;have kp1:=keepC hSw p1;have kq0:=keepC hSw q0;have kq1:=keepC hSw q1;have kt0:=keepC hSw t0;have kt1:=keepC hSw t1;go_simp <;> with_reducible rfl) ?_;(try simp only [PPz]);refine tkm 7 rfl hHeld (fun w hSw => by have kp0:=keepC hSw p0;have kp1:=keepC hSw p1;have kq0:=keepC hSw q0;have kq1:=keepC hSw q1;have kt0:=keepC hSw t0;have kt1:=keepC hSw t1;go_simp <;> with_reducible rfl) ?_;(try simp only [PPz]);refine tkd 8 ?_;refine tkd 9 ?_;(try simp only [PPz]);refine wpAnyH_done (by kernel_rfl) ?_ _;refine NoPanic.normal ?_;replace hR:=hR.keep hHeld;replace p0:=keepC hHeld p0;replace p1:=keepC hHeld p1;replace q0:=keepC hHeld q0;replace q1:=keepC hHeld q1;replace t0:=keepC hHeld t0;replace t1:=keepC hHeld t1;clear hHeld
      go_upto_if 32 with fail
      go_cut [0,8] (fun t u v => ∃ (Z : Option Addr) (cz : Nat),t = .slice Z la.length cz∧la.length ≤ cz∧IsQ w Z la∧u = .bool (!x)∧v = wdx0)
      case first =>
       have hne:=HNA.out;clear HNA;(go_wp2_with fail)
       all_goals
        go_meet
        subst hne
        first
         | exact ⟨_,_,rfl,by omega,hA'.out,rfl,rfl⟩
         | exact ⟨_,_,rfl,by omega,fun h0 => absurd h0 (by omega),rfl,rfl⟩
      case rest =>
       obtain ⟨Az,caz,rfl,hlzA,hQA,rfl,hwz⟩:=hcut;subst hwz;refine at_worldK (fun v => Acc w w.heap.size 31 2 u7 res.length (Pc.cells2 res) v∧v.cell? ⟨ba,oa,none⟩ = some (.int .i64 p.num)∧v.cell? ⟨ba,oa + 1,none⟩ = some (.int .i64 (p.den : Int))∧v.cell? ⟨bb,ob,none⟩ = some (.int .i64 q.num)∧v.cell? ⟨bb,ob + 1,none⟩ = some (.int .i64 (q.den : Int))∧v.cell? ⟨PP,0,none⟩ = some (.int .i64 p.num)∧v.cell? ⟨PP,1,none⟩ = some (.int .i64 (p.den : Int))) ⟨hR,p0,p1,q0,q1,t0,t1⟩ (fun V7 hS => ?_);clear hR p0 p1 q0 q1 t0 t1;obtain ⟨hR,p0,p1,q0,q1,t0,t1⟩:=hS
       go_upto_region 7 with fail
       refine wp_region_noPanic ?_;refine wp_region_held_drew (S:=(Below V7.heap.size V7)) (by kernel_rfl) ((Below.refl _ _).drew) (fun hHeld => ?_);refine at_anyH (Below V7.heap.size V7) hHeld (fun wdy0 hNew => ?_);clear hHeld;have hHeld:=hNew;clear hNew;refine tkd 0 ?_;refine tkd 1 ?_;refine tkd 2 ?_;refine tkd 3 ?_;refine tkd 4 ?_;refine tkd 5 ?_;(try simp only [PPz]);refine tkm 6 rfl hHeld (fun w hSw => by have kp0:=keepC hSw p0;have kp1:=keepC hSw p1;have kq0:=keepC hSw q0;have kq1:=keepC hSw q1;have kt0:=keepC hSw t0;have kt1:=keepC hSw t1;go_simp <;> with_reducible rfl) ?_;(try simp only [PPz]);refine tkm 7 rfl hHeld (fun w hSw => by have kp0:=keepC hSw p0;have kp1:=keepC hSw p1;have kq0:=keepC hSw q0;have kq1:=keepC hSw q1;have kt0:=keepC hSw t0;have kt1:=keepC hSw t1;go_simp <;> with_reducible rfl) ?_;(try simp only [PPz]);refine tkn 8 (.bool false) rfl ?_ hHeld ?_
       ·intro w hSw
        go_simp
        exact fun h1 => Pc.den_ne HNE.out.symm h1
       (try simp only [PPz]);refine tkd 9 ?_;(try simp only [PPz]);refine wpAnyH_done (by kernel_rfl) ?_ _;refine NoPanic.normal ?_;replace hR:=hR.keep hHeld;replace p0:=keepC hHeld p0;replace p1:=keepC hHeld p1;replace q0:=keepC hHeld q0;replace q1:=keepC hHeld q1;replace t0:=keepC hHeld t0;replace t1:=keepC hHeld t1;clear hHeld;(go_wp2_with fail);refine (KC.out _).mono ?_;rintro e w3 ⟨rfl,hHeld⟩;replace hR:=hR.keep hHeld;replace p0:=keepC hHeld p0;replace p1:=keepC hHeld p1;replace q0:=keepC hHeld q0;replace q1:=keepC hHeld q1;replace t0:=keepC hHeld t0;replace t1:=keepC hHeld t1;clear hHeld;clear KC;have hfz:=Lib.hid (show f (!x) y = f (!x) y from rfl)
       generalize f (!x) y = z at *
       by_cases hzk : z = k
       ·subst hzk
        have SS:=Lib.hid (S1.out hfz.out.symm)
        have e0 : (z != z) = false:=by simp
        clear S1 S2 hfz;(go_wp2_with fail)
        go_roundw
        case rel =>
         have hnb9:=HNB.out;subst hnb9;exact ⟨la,(q :: lb),res,_,_,_,_,(!x),y,z,rfl,rfl,rfl,rfl,rfl,⟨hlzA,(by have hnb:=HNB.out;rw [List.length_cons];omega)⟩,hQA,HBQ.out,⟨fun r hr => FA.out r (by simp [hr]),FB.out⟩, by rw [HSW.out,SS.out],by have hna:=HNA.out;have hnb:=HNB.out;(try simp only [List.length_nil,List.length_append,List.length_cons,List.length_singleton] at hl ⊢);omega,hR⟩
        case measure =>
         have hna:=HNA.out;have hnb:=HNB.out
         (try simp only [slen,List.length_nil,List.length_cons])
         omega
       ·have SS:=Lib.hid (S2.out (by rw [← hfz.out];exact hzk))
        have e1 : (z != k) = true:=by rw [bne_iff_ne];exact hzk
        have e2 : (z == k) = false:=by rw [beq_eq_false_iff_ne];exact hzk
        have e3 : (!(z == k)) = true:=by rw [e2];rfl
        clear S1 S2 hfz hzk;have hB0:=hR.hB
        have hln : res.length ≤ 480:=by omega
        generalize hRL' : res.length = nR at *
        have HRL:=Lib.hid hRL';clear hRL'
        go_wp2_with (at_builtin;go_loud (refine wpList_append_lies _ rfl _ _ _ rfl w.heap.size 31 i0 _ 2 16 Tryz.underlying68 HI.out HI2.out HI3.out HI4.out rfl (by omega) _ nR (Pc.cells2 res) (by rfl) (World.ownsRow.alloc hR.row _) ⟨w3.heap.size,0,none⟩ 1 1 [.int .i64 p.num,.int .i64 (p.den : Int)] (by rfl) (by rfl) (World.news_of_block (cs:=#[.int .i64 p.num,.int .i64 (p.den : Int)]) (t:=31) (fr:=(0,0)) (heap_alloc_new w3 _)) (by simp [Value.oneCell']) (by omega) (by unfold maxLen;omega) (by omega) (by simp;omega) (w3.heap.size + 1) (by simp) ?_);intro gg cap w4 hown1 hgrow hat hlt4)
        have hnew:=hR.app ((Below.refl _ w3).alloc (Nat.le_refl _) _) hown1 hgrow
        go_roundw
        case rel =>
         have hnb9:=HNB.out;subst hnb9;exact ⟨la,(q :: lb),res ++ [p],_,_,_,_,(!x),y,(!k),rfl,rfl,rfl,rfl,rfl,⟨hlzA,(by have hnb:=HNB.out;rw [List.length_cons];omega)⟩,hQA,HBQ.out,⟨fun r hr => FA.out r (by simp [hr]),FB.out⟩, by rw [HSW.out,SS.out,List.append_assoc];rfl,by have hna:=HNA.out;have hnb:=HNB.out;have hrl:=HRL.out;(try simp only [List.length_nil,List.length_append,List.length_cons,List.length_singleton] at hl ⊢);omega,by rw [Pc.cells2_app,List.length_append,HRL.out];exact hnew⟩
        case measure =>
         have hna:=HNA.out;have hnb:=HNB.out
         (try simp only [slen,List.length_nil,List.length_cons])
         omega
end Go.Proofs.YtogmfebphiglaaaGreat


