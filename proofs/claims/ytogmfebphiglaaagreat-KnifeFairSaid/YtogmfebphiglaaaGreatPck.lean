/- Check of package piece. -/
import Derived.Test.YtogmfebphiglaaaGreatHm
namespace Go.Proofs.YtogmfebphiglaaaGreat
open Go.RowKit

set_option linter.unusedSimpArgs false in
set_option maxHeartbeats 4000000 in
set_option maxRecDepth 100000 in
theorem pChk_any (A : Option Addr) (cap : Nat) (xs : List Raw) (w : World) (h : IsS w A xs) :
 Calls Tryz.prog 182 #[.slice A xs.length cap] w fun e w' => e = .returned (.int .i64 (Pc.chk xs))∧Below w.heap.size w w':=by
 by_cases hm : 60 < xs.length
 ·rw [Pc.chk_many hm]
  have hg : decide ((60 : Int) < (xs.length : Int)) = true:=decide_eq_true (by omega);clear h
  go_enter Tryz.func182,Tryz.ntmps182
  go_wp2
  go_ret
  exact ⟨rfl,Below.refl _ _⟩
 ·have hg : decide ((60 : Int) < (xs.length : Int)) = false:=decide_eq_false (by omega)
  obtain ⟨hI,hq,_⟩:=id h;have QS:=Lib.hid h.bd
  obtain ⟨b,off,hA,hc⟩ : ∃ b off,(0 < xs.length → A = some ⟨b,off,none⟩)∧∀ i,i < xs.length → w.cell? ⟨b,off + i * 4,none⟩ = some (.int .i64 (Pc.at_ xs i).a)∧w.cell? ⟨b,off + i * 4 + 1,none⟩ = some (.int .i64 (Pc.at_ xs i).b)∧w.cell? ⟨b,off + i * 4 + 2,none⟩ = some (.int .i64 (Pc.at_ xs i).c)∧w.cell? ⟨b,off + i * 4 + 3,none⟩ = some (.int .i64 (Pc.at_ xs i).d):=by
   by_cases h0 : 0 < xs.length
   ·obtain ⟨b,off,e,k⟩:=hI h0
    exact ⟨b,off,fun _ => e,k⟩
   ·exact ⟨0,0,fun k => absurd k h0,fun i hi => absurd hi (by omega)⟩
  have HC:=Lib.hid hc;have HA:=Lib.hid hA;clear h hI hq hc hA
  go_enter Tryz.func182,Tryz.ntmps182
  go_wp2_with fail
  go_loopw [3,4,10] (fun _ _ i v => ∃ k : Nat,k ≤ xs.length∧i = .int .i64 k∧(∀ j,j < k → Pc.bad xs j = false)∧Below w.heap.size w v) (fun _ _ i _ => xs.length - (intOf i).toNat)
  case atStart => exact ⟨0,Nat.zero_le _,rfl,fun j hj => absurd hj (Nat.not_lt_zero _),Below.refl _ _⟩
  case round =>
   obtain ⟨k,hk,rfl,hok,hbb⟩:=hrel;have HOK:=Lib.hid hok;clear hok
   by_cases hlt : k < xs.length
   ·have hA':=HA.out (by omega)
    subst hA';obtain ⟨s,hs⟩ : ∃ s,Pc.at_ xs k = s:=⟨_,rfl⟩;have hsb:=QS.out k;rw [hs] at hsb;have c0:=keepC hbb (HC.out k hlt).1;have c1:=keepC hbb (HC.out k hlt).2.1;have c2:=keepC hbb (HC.out k hlt).2.2.1;have c3:=keepC hbb (HC.out k hlt).2.2.2;rw [hs] at c0 c1 c2 c3
    have is:=fun v => isSpan_any s v hsb
    by_cases hsp : Pc.spanB s = true
    ·rcases k with _ | j
     ·have EB:=Lib.hid (show Pc.bad xs 0 = false by unfold Pc.bad;rw [hs,hsp];rfl)
      have g1 : decide ((0 : Int) < ((0 : Nat) : Int)) = false:=rfl;rw [hsp] at is;have IS:=Lib.hid is;clear is
      simp only [Nat.zero_mul,Nat.add_zero] at c0 c1 c2 c3
      go_upto_region 6 with fail
      refine at_worldQ (fun v => Below w.heap.size w v∧BK v wr.heap.size [.int .i64 s.a,.int .i64 s.b,.int .i64 s.c,.int .i64 s.d]) ⟨below_al hbb _,BK.new wr [.int .i64 s.a,.int .i64 s.b,.int .i64 s.c,.int .i64 s.d] _⟩ (fun V hS => ?_);clear hbb c0 c1 c2 c3;obtain ⟨hbb,BP⟩:=hS;have p0:=BP.c 0 rfl;have p1:=BP.c 1 rfl;have p2:=BP.c 2 rfl;have p3:=BP.c 3 rfl
      generalize wr.heap.size = PP at *
      clear BP;refine wp_region_noPanic ?_;refine wp_region_held_drew (S:=(Below V.heap.size V)) (by kernel_rfl) ((Below.refl _ _).drew) (fun hHeld => ?_);refine at_anyH (Below V.heap.size V) hHeld (fun wz0 hNew => ?_);clear hHeld;have hHeld:=hNew;clear hNew;refine tkm 0 rfl hHeld (fun w hSw => by have kp0:=keepC hSw p0;have kp1:=keepC hSw p1;have kp2:=keepC hSw p2;have kp3:=keepC hSw p3;go_simp <;> with_reducible rfl) ?_;(try simp only [PPz]);refine rdy1 1 rfl (fun K hK => ?_);go_simp;refine (IS.out _).mono ?_;rintro e wz2 ⟨rfl,hb3⟩;(go_wp2_with fail);refine hK.out _ _ (keepB hHeld hb3) (fun hNew => ?_);replace hHeld:=hNew;clear hNew hK K hb3;(try simp only [PPz]);refine tkd 2 ?_;refine tkd 3 ?_;refine tkd 4 ?_;refine tkd 5 ?_;refine tkd 6 ?_;(try simp only [PPz]);refine tkns 7 rfl hHeld ?_;(try simp only [PPz]);refine tkns 8 rfl hHeld ?_;(try simp only [PPz]);refine tkns 9 rfl hHeld ?_;(try simp only [PPz]);refine tkns 10 rfl hHeld ?_;(try simp only [PPz]);refine tkns 11 rfl hHeld ?_;(try simp only [PPz]);refine tkns 12 rfl hHeld ?_;(try simp only [PPz]);refine tkns 13 rfl hHeld ?_;(try simp only [PPz]);refine tkns 14 rfl hHeld ?_;(try simp only [PPz]);refine tkns 15 rfl hHeld ?_;(try simp only [PPz]);refine tkns 16 rfl hHeld ?_;(try simp only [PPz]);refine tkd 17 ?_;refine tkd 18 ?_;(try simp only [PPz]);refine wpAnyH_done (by kernel_rfl) ?_ _;refine NoPanic.normal ?_;replace hbb:=keepB hbb hHeld;(go_wp2_with fail)
      go_roundw
      case rel => exact ⟨0 + 1,by omega,by go_num,fun j hj => (Nat.lt_succ_iff_lt_or_eq.1 hj).elim (HOK.out j) (fun e => e ▸ EB.out),hbb⟩
      case measure => simp [intOf];omega
     ·obtain ⟨t,ht⟩ : ∃ t,Pc.at_ xs j = t:=⟨_,rfl⟩
      have htb:=QS.out j;rw [ht] at htb;have x2:=keepC hbb (HC.out j (by omega)).2.2.1;have x3:=keepC hbb (HC.out j (by omega)).2.2.2;rw [ht] at x2 x3
      have ls:=fun v => pless_any t.c t.d s.a s.b v htb.2.1 htb.2.2 hsb.1.1 hsb.1.2
      have hbd : Pc.bad xs (j + 1) = !Pc.lessB t.c t.d s.a s.b:=by unfold Pc.bad;rw [hs,hsp,show j + 1 - 1 = j from rfl,ht];simp
      have g1 : decide ((0 : Int) < (j : Int) + 1) = true:=decide_eq_true (by omega)
      have t4 : IntKind.i64.wrap ((j : Int) + 1 - 1) = (j : Int):=by rw [show (j : Int) + 1 - 1 = j by omega];exact IntWalk.i64_in _ (by omega)
      have t7 : IntKind.i64.wrap (j : Int) = (j : Int):=IntWalk.i64_in _ (by omega)
      have t5 : (j : Int) < (xs.length : Int):=by omega
      have t8 : (0 : Int) ≤ (j : Int):=by omega
      by_cases hle : Pc.lessB t.c t.d s.a s.b = true
      ·rw [hle] at ls hbd
       have LS:=Lib.hid ls;have EB:=Lib.hid (show Pc.bad xs (j + 1) = false from hbd);clear ls hbd;rw [hsp] at is;have IS:=Lib.hid is;clear is
       go_upto_region 6 with fail
       refine at_worldQ (fun v => Below w.heap.size w v∧BK v wr.heap.size [.int .i64 s.a,.int .i64 s.b,.int .i64 s.c,.int .i64 s.d]∧v.cell? ⟨b,off + j * 4 + 2,none⟩ = some (.int .i64 t.c)∧v.cell? ⟨b,off + j * 4 + 3,none⟩ = some (.int .i64 t.d)) ⟨below_al hbb _,BK.new wr [.int .i64 s.a,.int .i64 s.b,.int .i64 s.c,.int .i64 s.d] _,cell_alloc x2 _,cell_alloc x3 _⟩ (fun V hS => ?_);clear hbb c0 c1 c2 c3 x2 x3;obtain ⟨hbb,BP,x2,x3⟩:=hS;have p0:=BP.c 0 rfl;have p1:=BP.c 1 rfl;have p2:=BP.c 2 rfl;have p3:=BP.c 3 rfl
       generalize wr.heap.size = PP at *
       clear BP;refine wp_region_noPanic ?_;refine wp_region_held_drew (S:=(Below V.heap.size V)) (by kernel_rfl) ((Below.refl _ _).drew) (fun hHeld => ?_);refine at_anyH (Below V.heap.size V) hHeld (fun wn0 hNew => ?_);clear hHeld;have hHeld:=hNew;clear hNew;refine tkm 0 rfl hHeld (fun w hSw => by have kp0:=keepC hSw p0;have kp1:=keepC hSw p1;have kp2:=keepC hSw p2;have kp3:=keepC hSw p3;have kx2:=keepC hSw x2;have kx3:=keepC hSw x3;go_simp <;> with_reducible rfl) ?_;(try simp only [PPz]);refine rdy1 1 rfl (fun K hK => ?_);go_simp;refine (IS.out _).mono ?_;rintro e wn2 ⟨rfl,hb3⟩;(go_wp2_with fail);refine hK.out _ _ (keepB hHeld hb3) (fun hNew => ?_);replace hHeld:=hNew;clear hNew hK K hb3;(try simp only [PPz]);refine tkd 2 ?_;refine tkd 3 ?_;refine tkd 4 ?_;refine tkd 5 ?_;refine tkd 6 ?_;refine tkd 7 ?_;refine tkd 8 ?_;refine tkd 9 ?_;refine tkd 10 ?_;refine tkd 11 ?_;(try simp only [PPz]);refine tkm 12 rfl hHeld (fun w hSw => by have kp0:=keepC hSw p0;have kp1:=keepC hSw p1;have kp2:=keepC hSw p2;have kp3:=keepC hSw p3;have kx2:=keepC hSw x2;have kx3:=keepC hSw x3;go_simp <;> with_reducible rfl) ?_;(try simp only [PPz]);refine tkd 13 ?_;(try simp only [PPz]);refine tkm 14 rfl hHeld (fun w hSw => by have kp0:=keepC hSw p0;have kp1:=keepC hSw p1;have kp2:=keepC hSw p2;have kp3:=keepC hSw p3;have kx2:=keepC hSw x2;have kx3:=keepC hSw x3;go_simp <;> with_reducible rfl) ?_;(try simp only [PPz]);refine rdy1 15 rfl (fun K hK => ?_);go_simp;refine (LS.out _).mono ?_;rintro e wn16 ⟨rfl,hb3⟩;(go_wp2_with fail);refine hK.out _ _ (keepB hHeld hb3) (fun hNew => ?_);replace hHeld:=hNew;clear hNew hK K hb3;(try simp only [PPz]);refine tkd 16 ?_;refine tkd 17 ?_;refine tkd 18 ?_;(try simp only [PPz]);refine wpAnyH_done (by kernel_rfl) ?_ _;refine NoPanic.normal ?_;replace hbb:=keepB hbb hHeld;(go_wp2_with fail)
       go_roundw
       case rel => exact ⟨j + 1 + 1,by omega,by go_num,fun j hj => (Nat.lt_succ_iff_lt_or_eq.1 hj).elim (HOK.out j) (fun e => e ▸ EB.out),hbb⟩
       case measure => simp [intOf];omega
      ·have hle : Pc.lessB t.c t.d s.a s.b = false:=by simpa using hle
       rw [hle] at ls hbd;have LS:=Lib.hid ls;have EB:=Lib.hid (Pc.chk_bad hm hlt hbd);clear ls hbd;rw [hsp] at is;have IS:=Lib.hid is;clear is
       go_upto_region 6 with fail
       refine at_worldQ (fun v => Below w.heap.size w v∧BK v wr.heap.size [.int .i64 s.a,.int .i64 s.b,.int .i64 s.c,.int .i64 s.d]∧v.cell? ⟨b,off + j * 4 + 2,none⟩ = some (.int .i64 t.c)∧v.cell? ⟨b,off + j * 4 + 3,none⟩ = some (.int .i64 t.d)) ⟨below_al hbb _,BK.new wr [.int .i64 s.a,.int .i64 s.b,.int .i64 s.c,.int .i64 s.d] _,cell_alloc x2 _,cell_alloc x3 _⟩ (fun V hS => ?_);clear hbb c0 c1 c2 c3 x2 x3;obtain ⟨hbb,BP,x2,x3⟩:=hS;have p0:=BP.c 0 rfl;have p1:=BP.c 1 rfl;have p2:=BP.c 2 rfl;have p3:=BP.c 3 rfl
       generalize wr.heap.size = PP at *
       clear BP;refine wp_region_noPanic ?_;refine wp_region_held_drew (S:=(Below V.heap.size V)) (by kernel_rfl) ((Below.refl _ _).drew) (fun hHeld => ?_);refine at_anyH (Below V.heap.size V) hHeld (fun wm0 hNew => ?_);clear hHeld;have hHeld:=hNew;clear hNew;refine tkm 0 rfl hHeld (fun w hSw => by have kp0:=keepC hSw p0;have kp1:=keepC hSw p1;have kp2:=keepC hSw p2;have kp3:=keepC hSw p3;have kx2:=keepC hSw x2;have kx3:=keepC hSw x3;go_simp <;> with_reducible rfl) ?_;(try simp only [PPz]);refine rdy1 1 rfl (fun K hK => ?_);go_simp;refine (IS.out _).mono ?_;rintro e wm2 ⟨rfl,hb3⟩;(go_wp2_with fail);refine hK.out _ _ (keepB hHeld hb3) (fun hNew => ?_);replace hHeld:=hNew;clear hNew hK K hb3;(try simp only [PPz]);refine tkd 2 ?_;refine tkd 3 ?_;refine tkd 4 ?_;refine tkd 5 ?_;refine tkd 6 ?_;refine tkd 7 ?_;refine tkd 8 ?_;refine tkd 9 ?_;refine tkd 10 ?_;refine tkd 11 ?_;(try simp only [PPz]);refine tkm 12 rfl hHeld (fun w hSw => by have kp0:=keepC hSw p0;have kp1:=keepC hSw p1;have kp2:=keepC hSw p2;have kp3:=keepC hSw p3;have kx2:=keepC hSw x2;have kx3:=keepC hSw x3;go_simp <;> with_reducible rfl) ?_;(try simp only [PPz]);refine tkd 13 ?_;(try simp only [PPz]);refine tkm 14 rfl hHeld (fun w hSw => by have kp0:=keepC hSw p0;have kp1:=keepC hSw p1;have kp2:=keepC hSw p2;have kp3:=keepC hSw p3;have kx2:=keepC hSw x2;have kx3:=keepC hSw x3;go_simp <;> with_reducible rfl) ?_;(try simp only [PPz]);refine rdy1 15 rfl (fun K hK => ?_);go_simp;refine (LS.out _).mono ?_;rintro e wm16 ⟨rfl,hb3⟩;(go_wp2_with fail);refine hK.out _ _ (keepB hHeld hb3) (fun hNew => ?_);replace hHeld:=hNew;clear hNew hK K hb3;(try simp only [PPz]);refine tkd 16 ?_;refine tkd 17 ?_;refine tkd 18 ?_;(try simp only [PPz]);refine wpAnyH_done (by kernel_rfl) ?_ _;refine NoPanic.normal ?_;(go_wp2_with fail)
       go_ret
       exact ⟨by rw [EB.out];rfl,keepB hbb hHeld⟩
    ·have hsp : Pc.spanB s = false:=by simpa using hsp
     have EB:=Lib.hid (Pc.chk_bad hm hlt (show Pc.bad xs k = true by unfold Pc.bad;rw [hs,hsp];rfl));rw [hsp] at is;have IS:=Lib.hid is;clear is
     go_upto_region 6 with fail
     refine at_worldQ (fun v => Below w.heap.size w v∧BK v wr.heap.size [.int .i64 s.a,.int .i64 s.b,.int .i64 s.c,.int .i64 s.d]) ⟨below_al hbb _,BK.new wr [.int .i64 s.a,.int .i64 s.b,.int .i64 s.c,.int .i64 s.d] _⟩ (fun V hS => ?_);clear hbb c0 c1 c2 c3;obtain ⟨hbb,BP⟩:=hS;have p0:=BP.c 0 rfl;have p1:=BP.c 1 rfl;have p2:=BP.c 2 rfl;have p3:=BP.c 3 rfl
     generalize wr.heap.size = PP at *
     clear BP;refine wp_region_noPanic ?_;refine wp_region_held_drew (S:=(Below V.heap.size V)) (by kernel_rfl) ((Below.refl _ _).drew) (fun hHeld => ?_);refine at_anyH (Below V.heap.size V) hHeld (fun wb0 hNew => ?_);clear hHeld;have hHeld:=hNew;clear hNew;refine tkm 0 rfl hHeld (fun w hSw => by have kp0:=keepC hSw p0;have kp1:=keepC hSw p1;have kp2:=keepC hSw p2;have kp3:=keepC hSw p3;go_simp <;> with_reducible rfl) ?_;(try simp only [PPz]);refine rdy1 1 rfl (fun K hK => ?_);go_simp;refine (IS.out _).mono ?_;rintro e wb2 ⟨rfl,hb3⟩;(go_wp2_with fail);refine hK.out _ _ (keepB hHeld hb3) (fun hNew => ?_);replace hHeld:=hNew;clear hNew hK K hb3;(try simp only [PPz]);refine tkd 2 ?_;refine tkd 3 ?_;(try simp only [PPz]);refine tkns 4 rfl hHeld ?_;(try simp only [PPz]);refine tkns 5 rfl hHeld ?_;(try simp only [PPz]);refine tkns 6 rfl hHeld ?_;(try simp only [PPz]);refine tkns 7 rfl hHeld ?_;(try simp only [PPz]);refine tkns 8 rfl hHeld ?_;(try simp only [PPz]);refine tkns 9 rfl hHeld ?_;(try simp only [PPz]);refine tkns 10 rfl hHeld ?_;(try simp only [PPz]);refine tkns 11 rfl hHeld ?_;(try simp only [PPz]);refine tkns 12 rfl hHeld ?_;(try simp only [PPz]);refine tkns 13 rfl hHeld ?_;(try simp only [PPz]);refine tkns 14 rfl hHeld ?_;(try simp only [PPz]);refine tkns 15 rfl hHeld ?_;(try simp only [PPz]);refine tkns 16 rfl hHeld ?_;(try simp only [PPz]);refine tkns 17 rfl hHeld ?_;(try simp only [PPz]);refine tkd 18 ?_;(try simp only [PPz]);refine wpAnyH_done (by kernel_rfl) ?_ _;refine NoPanic.normal ?_;(go_wp2_with fail)
     go_ret
     exact ⟨by rw [EB.out];rfl,keepB hbb hHeld⟩
   ·obtain rfl : k = xs.length:=by omega
    have EB:=Lib.hid (Pc.chk_ok hm HOK.out);clear HA HC QS HOK;(go_wp2_with fail)
    go_ret
    exact ⟨by rw [EB.out];rfl,hbb⟩

end Go.Proofs.YtogmfebphiglaaaGreat


