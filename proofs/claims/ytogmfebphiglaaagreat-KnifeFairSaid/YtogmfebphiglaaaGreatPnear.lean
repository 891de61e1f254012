/- Package piece's nearest end, and what is kept of two pieces. -/
import Derived.Test.YtogmfebphiglaaaGreatHm
namespace Go.Proofs.YtogmfebphiglaaaGreat
open Go.RowKit
theorem Pc.less_fit {p q : Rat} (h : Pc.Fit p) (k : Pc.Fit q) : Pc.lessB p.num (p.den : Int) q.num (q.den : Int) = decide (p < q):=by
 unfold Pc.lessB
 rw [decide_eq_decide];rw [Rp.q_self,Rp.q_self];exact ⟨fun x => x.2.2,fun x => ⟨h,k,x⟩⟩
theorem pboth_any (x y : Bool) (w : World) : Calls Tryz.prog 230 #[.bool x,.bool y] w fun e w' => e = .returned (.bool (x && y))∧Below w.heap.size w w':=by
 cases x <;> cases y <;>
 ·go_enter Tryz.func230,Tryz.ntmps230
  go_wp2
  go_ret
  exact ⟨rfl,Below.refl _ _⟩

set_option linter.unusedSimpArgs false in
set_option maxHeartbeats 4000000 in
set_option maxRecDepth 100000 in
theorem nearest_any (A B : Option Addr) (ca cb : Nat) (la lb : List Rat) (w : World) (hne : ¬ (la = []∧lb = [])) (hA : IsQ w A la) (hB : IsQ w B lb) (fa : ∀ r ∈ la,Pc.Fit r) (fb : ∀ r ∈ lb,Pc.Fit r) :
 Calls Tryz.prog 246 #[.slice A la.length ca,.slice B lb.length cb] w fun e w' => e = .returned (.agg #[.int .i64 (Pc.near la lb).num,.int .i64 ((Pc.near la lb).den : Int)])∧Below w.heap.size w w':=by
 have e1 : (((0 : Nat) : Int) == 0) = true:=rfl;have e3 : decide ((0 : Int) < ((0 : Nat) : Int)) = false:=rfl
 rcases la with _ | ⟨p,la⟩
 ·rcases lb with _ | ⟨q,lb⟩
  ·exact absurd ⟨rfl,rfl⟩ hne
  ·obtain ⟨bb,ob,rfl,hc⟩:=hB (by simp)
   obtain ⟨q0,q1⟩:=hc 0 (by simp);rw [Nat.zero_mul,Nat.add_zero] at q0 q1;have eq : Pc.qat (q :: lb) 0 = q:=rfl;rw [eq] at q0 q1;have en : Pc.near [] (q :: lb) = q:=rfl;rw [en];clear hA hB fa fb hc eq en hne
   go_enter Tryz.func246,Tryz.ntmps246
   go_upto_region 1 with fail
   refine at_worldQ (fun v => Below w.heap.size w v∧BK v w.heap.size [.int .i64 0,.int .i64 0]∧v.cell? ⟨bb,ob,none⟩ = some (.int .i64 q.num)∧v.cell? ⟨bb,ob + 1,none⟩ = some (.int .i64 (q.den : Int))) ⟨below_al (Below.refl _ _) _,BK.new w [.int .i64 0,.int .i64 0] _,cell_alloc q0 _,cell_alloc q1 _⟩ (fun V hS => ?_);clear q0 q1;obtain ⟨hbb,BR,q0,q1⟩:=hS;refine wp_region_noPanic ?_;refine wp_region_held_drew (S:=(Below V.heap.size V)) (by kernel_rfl) ((Below.refl _ _).drew) (fun hHeld => ?_);refine at_anyH (Below V.heap.size V) hHeld (fun wa0 hNew => ?_);clear hHeld;have hHeld:=hNew;clear hNew;refine tkd 0 ?_;refine tkd 1 ?_;refine tkd 2 ?_;refine tkd 3 ?_;(try simp only [PPz]);refine tkns 4 rfl hHeld ?_;(try simp only [PPz]);refine tkns 5 rfl hHeld ?_;(try simp only [PPz]);refine tkns 6 rfl hHeld ?_;(try simp only [PPz]);refine tkns 7 rfl hHeld ?_;(try simp only [PPz]);refine tkns 8 rfl hHeld ?_;(try simp only [PPz]);refine tkns 9 rfl hHeld ?_;(try simp only [PPz]);refine tkns 10 rfl hHeld ?_;(try simp only [PPz]);refine tkns 11 rfl hHeld ?_;(try simp only [PPz]);refine tkns 12 rfl hHeld ?_;(try simp only [PPz]);refine tkns 13 rfl hHeld ?_;(try simp only [PPz]);refine tkns 14 rfl hHeld ?_;(try simp only [PPz]);refine tkns 15 rfl hHeld ?_;(try simp only [PPz]);refine tkd 16 ?_;(try simp only [PPz]);refine wpAnyH_done (by kernel_rfl) ?_ _;refine NoPanic.normal ?_;have r0:=keepC hHeld (BR.c 0 rfl);have r1:=keepC hHeld (BR.c 1 rfl);have f0:=keepF hHeld (BR.c 0 rfl) (BR.f 0 rfl);have f1:=keepF hHeld (BR.c 1 rfl) (BR.f 1 rfl);replace q0:=keepC hHeld q0;replace q1:=keepC hHeld q1;replace hbb:=keepB hbb hHeld;clear hHeld BR
   go_wp2
   exact bodyPost_ret (v:=.agg #[.int .i64 q.num,.int .i64 (q.den : Int)]) (by simp [results,Tryz.results246,go_sem,r0,r1]) rfl ⟨rfl,below_set (below_set hbb (Nat.le_refl _) _) (Nat.le_refl _) _⟩
 ·obtain ⟨ba,oa,rfl,hca⟩:=hA (by simp)
  obtain ⟨p0,p1⟩:=hca 0 (by simp);rw [Nat.zero_mul,Nat.add_zero] at p0 p1;have ep : Pc.qat (p :: la) 0 = p:=rfl;rw [ep] at p0 p1;have hp:=fa p (by simp)
  have e2 : ((((p :: la).length : Nat) : Int) == 0) = false:=by rw [beq_eq_false_iff_ne,List.length_cons];omega
  have e6 : 0 < (p :: la).length:=by rw [List.length_cons];omega
  generalize (p :: la).length = na at *
  rcases lb with _ | ⟨q,lb⟩
  ·have en : Pc.near (p :: la) [] = p:=rfl
   rw [en];clear hA hB fa fb hca ep en hne e1;have e4 : ((([] : List Rat).length : Nat) : Int) = 0:=rfl
   go_enter Tryz.func246,Tryz.ntmps246
   go_upto_region 1 with fail
   refine at_worldQ (fun v => Below w.heap.size w v∧BK v w.heap.size [.int .i64 0,.int .i64 0]∧v.cell? ⟨ba,oa,none⟩ = some (.int .i64 p.num)∧v.cell? ⟨ba,oa + 1,none⟩ = some (.int .i64 (p.den : Int))) ⟨below_al (Below.refl _ _) _,BK.new w [.int .i64 0,.int .i64 0] _,cell_alloc p0 _,cell_alloc p1 _⟩ (fun V hS => ?_);clear p0 p1;obtain ⟨hbb,BR,p0,p1⟩:=hS;refine wp_region_noPanic ?_;refine wp_region_held_drew (S:=(Below V.heap.size V)) (by kernel_rfl) ((Below.refl _ _).drew) (fun hHeld => ?_);refine at_anyH (Below V.heap.size V) hHeld (fun wb0 hNew => ?_);clear hHeld;have hHeld:=hNew;clear hNew;refine tkd 0 ?_;refine tkd 1 ?_;refine tkd 2 ?_;refine tkd 3 ?_;refine tkd 4 ?_;refine tkd 5 ?_;refine tkd 6 ?_;refine tkd 7 ?_;(try simp only [PPz]);refine tkns 8 rfl hHeld ?_;(try simp only [PPz]);refine tkns 9 rfl hHeld ?_;(try simp only [PPz]);refine tkns 10 rfl hHeld ?_;(try simp only [PPz]);refine tkns 11 rfl hHeld ?_;(try simp only [PPz]);refine tkns 12 rfl hHeld ?_;(try simp only [PPz]);refine tkns 13 rfl hHeld ?_;(try simp only [PPz]);refine tkns 14 rfl hHeld ?_;(try simp only [PPz]);refine tkd 15 ?_;refine tkd 16 ?_;(try simp only [PPz]);refine wpAnyH_done (by kernel_rfl) ?_ _;refine NoPanic.normal ?_;have r0:=keepC hHeld (BR.c 0 rfl);have r1:=keepC hHeld (BR.c 1 rfl);have f0:=keepF hHeld (BR.c 0 rfl) (BR.f 0 rfl);have f1:=keepF hHeld (BR.c 1 rfl) (BR.f 1 rfl);replace p0:=keepC hHeld p0;replace p1:=keepC hHeld p1;replace hbb:=keepB hbb hHeld;clear hHeld BR
   go_wp2
   exact bodyPost_ret (v:=.agg #[.int .i64 p.num,.int .i64 (p.den : Int)]) (by simp [results,Tryz.results246,go_sem,r0,r1]) rfl ⟨rfl,below_set (below_set hbb (Nat.le_refl _) _) (Nat.le_refl _) _⟩
  ·obtain ⟨bb,ob,rfl,hc⟩:=hB (by simp)
   obtain ⟨q0,q1⟩:=hc 0 (by simp);rw [Nat.zero_mul,Nat.add_zero] at q0 q1;have eq : Pc.qat (q :: lb) 0 = q:=rfl;rw [eq] at q0 q1;have hq:=fb q (by simp)
   have ls:=fun v => pless_any q.num (q.den : Int) p.num (p.den : Int) v (by have:=Pc.fit_bd hq;unfold I64;omega) (by have:=Pc.fit_bd hq;unfold I64;omega) (by have:=Pc.fit_bd hp;unfold I64;omega) (by have:=Pc.fit_bd hp;unfold I64;omega)
   rw [Pc.less_fit hq hp] at ls;have e4 : decide ((0 : Int) < (((q :: lb).length : Nat) : Int)) = true:=decide_eq_true (by rw [List.length_cons];omega)
   have e5 : 0 < (q :: lb).length:=by rw [List.length_cons];omega
   generalize (q :: lb).length = nb at *
   by_cases hlt : q < p
   ·have en : Pc.near (p :: la) (q :: lb) = q:=by unfold Pc.near;exact if_pos hlt
    rw [en];rw [decide_eq_true hlt] at ls;have LS:=Lib.hid ls;clear hA hB fa fb hca hc ep eq en hne e1 e3 ls hp hq hlt
    go_enter Tryz.func246,Tryz.ntmps246
    go_upto_region 1 with fail
    refine at_worldQ (fun v => Below w.heap.size w v∧BK v w.heap.size [.int .i64 0,.int .i64 0]∧v.cell? ⟨ba,oa,none⟩ = some (.int .i64 p.num)∧v.cell? ⟨ba,oa + 1,none⟩ = some (.int .i64 (p.den : Int))∧v.cell? ⟨bb,ob,none⟩ = some (.int .i64 q.num)∧v.cell? ⟨bb,ob + 1,none⟩ = some (.int .i64 (q.den : Int))) ⟨below_al (Below.refl _ _) _,BK.new w [.int .i64 0,.int .i64 0] _,cell_alloc p0 _,cell_alloc p1 _,cell_alloc q0 _,cell_alloc q1 _⟩ (fun V hS => ?_);clear p0 p1 q0 q1;obtain ⟨hbb,BR,p0,p1,q0,q1⟩:=hS;refine wp_region_noPanic ?_;refine wp_region_held_drew (S:=(Below V.heap.size V)) (by kernel_rfl) ((Below.refl _ _).drew) (fun hHeld => ?_);refine at_anyH (Below V.heap.size V) hHeld (fun wc0 hNew => ?_);clear hHeld;have hHeld:=hNew;clear hNew;refine tkd 0 ?_;refine tkd 1 ?_;refine tkd 2 ?_;refine tkd 3 ?_;refine tkd 4 ?_;refine tkd 5 ?_;refine tkd 6 ?_;refine tkd 7 ?_;refine tkd 8 ?_;refine tkd 9 ?_;(try simp only [PPz]);refine tkm 10 rfl hHeld (fun w hSw => by have kp0:=keepC hSw p0;have kp1:=keepC hSw p1;have kq0:=keepC hSw q0;have kq1:=keepC hSw q1;go_simp <;> with_reducible rfl) ?_;(try simp only [PPz]);refine tkd 11 ?_;refine tkd 12 ?_;(try simp only [PPz]);refine tkm 13 rfl hHeld (fun w hSw => by have kp0:=keepC hSw p0;have kp1:=keepC hSw p1;have kq0:=keepC hSw q0;have kq1:=keepC hSw q1;go_simp <;> with_reducible rfl) ?_;(try simp only [PPz]);refine rdy1 14 rfl (fun K hK => ?_);go_simp;refine (LS.out _).mono ?_;rintro e wc15 ⟨rfl,hb3⟩;(go_wp2_with fail);refine hK.out _ _ (keepB hHeld hb3) (fun hNew => ?_);replace hHeld:=hNew;clear hNew hK K hb3;(try simp only [PPz]);refine tkd 15 ?_;refine tkd 16 ?_;(try simp only [PPz]);refine wpAnyH_done (by kernel_rfl) ?_ _;refine NoPanic.normal ?_;have r0:=keepC hHeld (BR.c 0 rfl);have r1:=keepC hHeld (BR.c 1 rfl);have f0:=keepF hHeld (BR.c 0 rfl) (BR.f 0 rfl);have f1:=keepF hHeld (BR.c 1 rfl) (BR.f 1 rfl);replace p0:=keepC hHeld p0;replace p1:=keepC hHeld p1;replace q0:=keepC hHeld q0;replace q1:=keepC hHeld q1;replace hbb:=keepB hbb hHeld;clear hHeld BR
    go_wp2
    exact bodyPost_ret (v:=.agg #[.int .i64 q.num,.int .i64 (q.den : Int)]) (by simp [results,Tryz.results246,go_sem,r0,r1]) rfl ⟨rfl,below_set (below_set hbb (Nat.le_refl _) _) (Nat.le_refl _) _⟩
   ·have en : Pc.near (p :: la) (q :: lb) = p:=by unfold Pc.near;exact if_neg hlt
    rw [en];rw [decide_eq_false hlt] at ls;have LS:=Lib.hid ls;clear hA hB fa fb hca hc ep eq en hne e1 e3 ls hp hq hlt
    go_enter Tryz.func246,Tryz.ntmps246
    go_upto_region 1 with fail
    refine at_worldQ (fun v => Below w.heap.size w v∧BK v w.heap.size [.int .i64 0,.int .i64 0]∧v.cell? ⟨ba,oa,none⟩ = some (.int .i64 p.num)∧v.cell? ⟨ba,oa + 1,none⟩ = some (.int .i64 (p.den : Int))∧v.cell? ⟨bb,ob,none⟩ = some (.int .i64 q.num)∧v.cell? ⟨bb,ob + 1,none⟩ = some (.int .i64 (q.den : Int))) ⟨below_al (Below.refl _ _) _,BK.new w [.int .i64 0,.int .i64 0] _,cell_alloc p0 _,cell_alloc p1 _,cell_alloc q0 _,cell_alloc q1 _⟩ (fun V hS => ?_);clear p0 p1 q0 q1;obtain ⟨hbb,BR,p0,p1,q0,q1⟩:=hS;refine wp_region_noPanic ?_;refine wp_region_held_drew (S:=(Below V.heap.size V)) (by kernel_rfl) ((Below.refl _ _).drew) (fun hHeld => ?_);refine at_anyH (Below V.heap.size V) hHeld (fun wd0 hNew => ?_);clear hHeld;have hHeld:=hNew;clear hNew;refine tkd 0 ?_;refine tkd 1 ?_;refine tkd 2 ?_;refine tkd 3 ?_;refine tkd 4 ?_;refine tkd 5 ?_;refine tkd 6 ?_;refine tkd 7 ?_;refine tkd 8 ?_;refine tkd 9 ?_;(try simp only [PPz]);refine tkm 10 rfl hHeld (fun w hSw => by have kp0:=keepC hSw p0;have kp1:=keepC hSw p1;have kq0:=keepC hSw q0;have kq1:=keepC hSw q1;go_simp <;> with_reducible rfl) ?_;(try simp only [PPz]);refine tkd 11 ?_;refine tkd 12 ?_;(try simp only [PPz]);refine tkm 13 rfl hHeld (fun w hSw => by have kp0:=keepC hSw p0;have kp1:=keepC hSw p1;have kq0:=keepC hSw q0;have kq1:=keepC hSw q1;go_simp <;> with_reducible rfl) ?_;(try simp only [PPz]);refine rdy1 14 rfl (fun K hK => ?_);go_simp;refine (LS.out _).mono ?_;rintro e wd15 ⟨rfl,hb3⟩;(go_wp2_with fail);refine hK.out _ _ (keepB hHeld hb3) (fun hNew => ?_);replace hHeld:=hNew;clear hNew hK K hb3;(try simp only [PPz]);refine tkd 15 ?_;refine tkd 16 ?_;(try simp only [PPz]);refine wpAnyH_done (by kernel_rfl) ?_ _;refine NoPanic.normal ?_;have r0:=keepC hHeld (BR.c 0 rfl);have r1:=keepC hHeld (BR.c 1 rfl);have f0:=keepF hHeld (BR.c 0 rfl) (BR.f 0 rfl);have f1:=keepF hHeld (BR.c 1 rfl) (BR.f 1 rfl);replace p0:=keepC hHeld p0;replace p1:=keepC hHeld p1;replace q0:=keepC hHeld q0;replace q1:=keepC hHeld q1;replace hbb:=keepB hbb hHeld;clear hHeld BR
    go_wp2
    exact bodyPost_ret (v:=.agg #[.int .i64 p.num,.int .i64 (p.den : Int)]) (by simp [results,Tryz.results246,go_sem,r0,r1]) rfl ⟨rfl,below_set (below_set hbb (Nat.le_refl _) _) (Nat.le_refl _) _⟩
end Go.Proofs.YtogmfebphiglaaaGreat


