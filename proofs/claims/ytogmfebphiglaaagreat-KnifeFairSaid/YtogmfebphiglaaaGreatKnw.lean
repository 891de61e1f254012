/- Package knife: slices.SortFunc of a few readings, by where they are. -/
import Derived.Test.YtogmfebphiglaaaGreatM25
import Derived.Test.YtogmfebphiglaaaGreatHq
import Derived.Deep.CutBlock
import Derived.Deep.DeepCutAuto
set_option linter.unusedSimpArgs false
set_option maxHeartbeats 8000000
set_option maxRecDepth 100000
namespace Go.Proofs.YtogmfebphiglaaaGreat
open Go.RowKit
theorem knls1_any (n d m c n2 d2 m2 c2 : Int) (h : Rp.Ok n d) (k : Rp.Ok m c) (w : World) :
 Calls Tryz.prog 120 #[.agg #[.int .i64 n,.int .i64 d,.int .i64 n2,.int .i64 d2],.agg #[.int .i64 m,.int .i64 c,.int .i64 m2,.int .i64 c2]] w fun e w' => e = .returned (.int .i64 (Rp.cmpQ (Rp.q n d) (Rp.q m c)))∧Below w.heap.size w w':=by
 have cc:=fun w => kncompare_any n d m c h k w
 generalize Rp.cmpQ (Rp.q n d) (Rp.q m c) = R at *
 have CC:=Lib.hid cc;clear cc h k
 go_enter Tryz.func120,Tryz.ntmps120
 (go_wp2_with fail);refine (CC.out _).mono ?_;rintro e w1 ⟨rfl,hb1⟩;have hbb : Below w.heap.size w w1:=keepB (((Below.refl _ _).alloc (Nat.le_refl _) _).alloc (by simp) _) hb1;clear hb1 CC;(go_wp2_with fail)
 go_ret
 exact ⟨rfl,hbb⟩
theorem knins_any (p n cap : Nat) (L : List (Rat × Rat)) (w : World) (hn : L.length = n) (h12 : n ≤ 12) (hf : ∀ s ∈ L,Pc.Fit s.1) (hB : BK w p (Pc.cells4 L)) :
 Calls Tryz.prog 198 #[.slice (some ⟨p,0,none⟩) n cap,.int .i64 0,.int .i64 (n : Nat),.func (.func 120) #[] #[]] w fun e w' => e = .returned (.tuple #[])∧SrtQ p L w w':=by
 have HF:=Lib.hid hf;have HN:=Lib.hid hn
 have hE : ∀ x y v,Sem.run Tryz.prog (callFunc 120 #[x,y]) v = .ok (.enter 120 #[x,y]) v:=fun x y v => by go_simp
 clear hf hn
 go_enter Tryz.func198,Tryz.ntmps198
 go_wp2_with fail
 go_loopw [8] (fun i v => ∃ (k : Nat) (S C : List (Rat × Rat)),i = .int .i64 (k : Nat)∧1 ≤ k∧(k ≤ n → S.length = k)∧(n < k → n = 0)∧Hid ((S ++ C).Perm L)∧Hid (Pf.Srt S)∧BK v p (Pc.cells4 (S ++ C))∧GB (fun z => z = p) w v) (fun i _ => n + 1 - (intOf i).toNat)
 case atStart =>
  cases hL : L with
  | nil => exact ⟨1,[],[],rfl,by omega,fun h => (by have:=HN.out;rw [hL] at this;simp at this;omega),fun _ => (by have:=HN.out;rw [hL] at this;simpa using this.symm),Lib.hid (List.Perm.refl _),Lib.hid List.Pairwise.nil,(by rw [hL] at hB;exact hB),GB.refl _ _⟩
  | cons s T => exact ⟨1,[s],T,rfl,by omega,fun _ => rfl,fun h => (by have:=HN.out;rw [hL] at this;simp at this;omega),Lib.hid (List.Perm.refl _),Lib.hid (List.pairwise_singleton _ _),(by rw [hL] at hB;exact hB),GB.refl _ _⟩
 case round =>
  clear hB;obtain ⟨k,S,C,rfl,hk1,hkn,hk0,hP,hS,hB,hG⟩:=hrel
  by_cases hlt : k < n
  ·have i1 : (k : Int) < (n : Int):=by omega
   have hSk:=Lib.hid (hkn (by omega))
   obtain ⟨x,R,hC⟩ : ∃ x R,C = x :: R:=by
    cases C with
    | nil =>
     have h1:=hP.out.length_eq;have h2:=hSk.out;have h3:=HN.out;rw [List.append_nil] at h1
     omega
    | cons x R => exact ⟨x,R,rfl⟩
   subst hC;clear hkn hk0;(go_wp2_with fail)
   go_loopw [9] (fun j v => ∃ (jj : Nat) (A B : List (Rat × Rat)),j = .int .i64 (jj : Nat)∧jj ≤ k∧Hid (A.length = jj∧(A ++ B).length = k)∧Hid ((A ++ x :: (B ++ R)).Perm L)∧Hid (Pf.Srt (A ++ B)∧∀ b ∈ B,x.1 < b.1)∧BK v p (Pc.cells4 (A ++ x :: (B ++ R)))∧GB (fun z => z = p) w v) (fun j _ => (intOf j).toNat)
   case atStart => exact ⟨k,S,[],rfl,Nat.le_refl _,Lib.hid ⟨hSk.out,by rw [List.append_nil];exact hSk.out⟩,hP,Lib.hid ⟨by rw [List.append_nil];exact hS.out,fun b h => (by cases h)⟩,hB,hG⟩
   case round =>
    clear hB hG hP hS hSk;obtain ⟨j,A,B,rfl,hjk,hAB,hP,hS,hB,hG⟩:=hrel
    rcases List.eq_nil_or_concat A with hA | ⟨A',a,hA⟩
    ·subst hA
     obtain rfl : 0 = j:=hAB.out.1
     go_upto_region 4 with fail
     refine at_worldQ (fun v => BK v p (Pc.cells4 ([] ++ x :: (B ++ R)))∧GB (fun z => z = p) w v) ⟨hB,hG⟩ (fun V hV => ?_);clear hB hG;obtain ⟨hB,hG⟩:=hV
     have j0 : decide ((0 : Int) > 0) = false:=by decide
     go_cut [34] (fun t v => t = .bool false∧Below V.heap.size V v)
     case first =>
      refine wp_region_held_drew (S:=(Below V.heap.size V)) (by kernel_rfl) ((Below.refl _ _).drew) (fun hHeld => ?_);refine at_anyH (Below V.heap.size V) hHeld (fun wo0 hNew => ?_);clear hHeld;have hHeld:=hNew;clear hNew;refine tkd 0 ?_;refine tkd 1 ?_;refine tkd 2 ?_;refine tkd 3 ?_;(try simp only [PPz]);refine tkns 4 rfl hHeld ?_;(try simp only [PPz]);refine tkns 5 rfl hHeld ?_;(try simp only [PPz]);refine tkns 6 rfl hHeld ?_;(try simp only [PPz]);refine tkns 7 rfl hHeld ?_;(try simp only [PPz]);refine tkns 8 rfl hHeld ?_;(try simp only [PPz]);refine tkns 9 rfl hHeld ?_;(try simp only [PPz]);refine tkns 10 rfl hHeld ?_;(try simp only [PPz]);refine tkns 11 rfl hHeld ?_;(try simp only [PPz]);refine tkns 12 rfl hHeld ?_;(try simp only [PPz]);refine tkns 13 rfl hHeld ?_;(try simp only [PPz]);refine tkns 14 rfl hHeld ?_;(try simp only [PPz]);refine tkns 15 rfl hHeld ?_;(try simp only [PPz]);refine tkd 16 ?_;(try simp only [PPz]);refine wpAnyH_done (by kernel_rfl) ?_ _;(go_wp2_with fail)
      go_meet
      exact ⟨rfl,hHeld⟩
     case rest =>
      obtain ⟨rfl,hb⟩:=hcut;replace hB:=hB.keep hb;replace hG:=hG.below hb;clear hb;(go_wp2_with fail)
      go_roundw
      case rel => exact ⟨k + 1,x :: B,R,by go_num,by omega,fun _ => (by have:=hAB.out.2;simpa using this),fun h => (by omega),Lib.hid hP.out,Lib.hid (Pf.Srt.snoc (A:=[]) hS.out.1 hS.out.2 (fun a h => (by cases h))),hB,hG⟩
      case measure => (simp [intOf] <;> omega)
    ·rw [List.concat_eq_append] at hA
     subst hA;obtain ⟨jp,hjp⟩ : ∃ z,A'.length = z:=⟨_,rfl⟩
     have hj : j = jp + 1:=by have:=hAB.out.1;simp at this;omega
     subst hj
     have hAx : (A' ++ [a]) ++ x :: (B ++ R) = A' ++ a :: x :: (B ++ R):=by simp
     rw [hAx] at hP hB
     have hc4 : Pc.cells4 (A' ++ a :: x :: (B ++ R)) = Pc.cells4 A' ++ .int .i64 a.1.num :: .int .i64 (a.1.den : Int) :: .int .i64 a.2.num :: .int .i64 (a.2.den : Int) :: .int .i64 x.1.num :: .int .i64 (x.1.den : Int) :: .int .i64 x.2.num :: .int .i64 (x.2.den : Int) :: Pc.cells4 (B ++ R):=by
      rw [Pc.cells4_app,Pf.cells4_cons,Pf.cells4_cons]
      rfl
     have hl4 : (Pc.cells4 A').length = jp * 4:=by rw [Pc.cells4_len,hjp]
     have fa : Rp.Ok a.1.num (a.1.den : Int):=HF.out a (hP.out.mem_iff.1 (by simp));have fx : Rp.Ok x.1.num (x.1.den : Int):=HF.out x (hP.out.mem_iff.1 (by simp))
     have ls:=fun v => knls1_any x.1.num (x.1.den : Int) a.1.num (a.1.den : Int) x.2.num (x.2.den : Int) a.2.num (a.2.den : Int) fx fa v
     rw [show Rp.q x.1.num (x.1.den : Int) = x.1 from Rp.q_self _,show Rp.q a.1.num (a.1.den : Int) = a.1 from Rp.q_self _] at ls;have hneg:=decide_eq_decide.1 (Rp.cmpQ_neg x.1 a.1);obtain ⟨r,hr⟩ : ∃ z,Rp.cmpQ x.1 a.1 = z:=⟨_,rfl⟩;rw [hr] at ls hneg;have LS:=Lib.hid ls;have HNG:=Lib.hid hneg;have HL4:=Lib.hid hl4;have HC4:=Lib.hid hc4;rw [hc4] at hB;obtain ⟨a0,ea0⟩ : ∃ z,a.1.num = z:=⟨_,rfl⟩;obtain ⟨a1,ea1⟩ : ∃ z,(a.1.den : Int) = z:=⟨_,rfl⟩;obtain ⟨a2,ea2⟩ : ∃ z,a.2.num = z:=⟨_,rfl⟩;obtain ⟨a3,ea3⟩ : ∃ z,(a.2.den : Int) = z:=⟨_,rfl⟩;obtain ⟨x0,ex0⟩ : ∃ z,x.1.num = z:=⟨_,rfl⟩;obtain ⟨x1,ex1⟩ : ∃ z,(x.1.den : Int) = z:=⟨_,rfl⟩;obtain ⟨x2,ex2⟩ : ∃ z,x.2.num = z:=⟨_,rfl⟩;obtain ⟨x3,ex3⟩ : ∃ z,(x.2.den : Int) = z:=⟨_,rfl⟩;rw [ea0,ea1,ea2,ea3,ex0,ex1,ex2,ex3] at hB LS HC4;have HEQ:=Lib.hid (show (a.1.num = a0∧(a.1.den : Int) = a1∧a.2.num = a2∧(a.2.den : Int) = a3)∧x.1.num = x0∧(x.1.den : Int) = x1∧x.2.num = x2∧(x.2.den : Int) = x3 from ⟨⟨ea0,ea1,ea2,ea3⟩,ex0,ex1,ex2,ex3⟩);clear ls hneg hr hl4 hc4 hAx fa fx ea0 ea1 ea2 ea3 ex0 ex1 ex2 ex3 hjp
     have t5 : (0 : Int) ≤ (jp : Int) + 1:=by omega
     have t6 : IntKind.i64.wrap (jp : Int) = (jp : Int):=IntWalk.i64_in _ (by omega)
     have t8 : IntKind.i64.wrap ((jp : Int) + 1 - 1) = (jp : Int):=by rw [show (jp : Int) + 1 - 1 = (jp : Int) by omega];exact t6
     have t7 : ((jp : Int) + 1).toNat = jp + 1:=by omega
     have t9 : (jp : Int) + 1 < (n : Int):=by omega
     have t10 : (jp : Int) < (n : Int):=by omega
     have t11 : (0 : Int) < (jp : Int) + 1:=by omega
     have t12 : (0 : Int) ≤ (jp : Int):=by omega
     have t13 : ((jp + 1 : Nat) : Int) = (jp : Int) + 1:=by omega
     rw [t13]
     go_upto_region 4 with fail
     refine at_worldQ (fun v => BK v p (Pc.cells4 A' ++ .int .i64 a0 :: .int .i64 a1 :: .int .i64 a2 :: .int .i64 a3 :: .int .i64 x0 :: .int .i64 x1 :: .int .i64 x2 :: .int .i64 x3 :: Pc.cells4 (B ++ R))∧GB (fun z => z = p) w v) ⟨hB,hG⟩ (fun V hV => ?_);clear hB hG;obtain ⟨hB,hG⟩:=hV;have ca0:=hB.c (jp * 4) (x:=.int .i64 a0) (by rw [show jp * 4 = jp * 4 + 0 by omega,Pf.cell_off HL4.out];rfl);have ca1:=hB.c (jp * 4 + 1) (x:=.int .i64 a1) (by rw [show jp * 4 + 1 = jp * 4 + 1 by omega,Pf.cell_off HL4.out];rfl);have ca2:=hB.c (jp * 4 + 2) (x:=.int .i64 a2) (by rw [show jp * 4 + 2 = jp * 4 + 2 by omega,Pf.cell_off HL4.out];rfl);have ca3:=hB.c (jp * 4 + 3) (x:=.int .i64 a3) (by rw [show jp * 4 + 3 = jp * 4 + 3 by omega,Pf.cell_off HL4.out];rfl);have cx0:=hB.c ((jp + 1) * 4) (x:=.int .i64 x0) (by rw [show (jp + 1) * 4 = jp * 4 + 4 by omega,Pf.cell_off HL4.out];rfl);have cx1:=hB.c ((jp + 1) * 4 + 1) (x:=.int .i64 x1) (by rw [show (jp + 1) * 4 + 1 = jp * 4 + 5 by omega,Pf.cell_off HL4.out];rfl);have cx2:=hB.c ((jp + 1) * 4 + 2) (x:=.int .i64 x2) (by rw [show (jp + 1) * 4 + 2 = jp * 4 + 6 by omega,Pf.cell_off HL4.out];rfl);have cx3:=hB.c ((jp + 1) * 4 + 3) (x:=.int .i64 x3) (by rw [show (jp + 1) * 4 + 3 = jp * 4 + 7 by omega,Pf.cell_off HL4.out];rfl)
     go_cut [34] (fun t v => t = .bool (decide (r < 0))∧Below V.heap.size V v)
     case first =>
      refine wp_region_held_drew (S:=(Below V.heap.size V)) (by kernel_rfl) ((Below.refl _ _).drew) (fun hHeld => ?_);refine at_anyH (Below V.heap.size V) hHeld (fun wq0 hNew => ?_);clear hHeld;have hHeld:=hNew;clear hNew;refine tkd 0 ?_;refine tkd 1 ?_;refine tkd 2 ?_;refine tkd 3 ?_;refine tkd 4 ?_;refine tkd 5 ?_;refine tkd 6 ?_;refine tkd 7 ?_;(try simp only [PPz]);refine tkm 8 rfl hHeld (fun w hSw => by have kca0:=keepC hSw ca0;have kca1:=keepC hSw ca1;have kca2:=keepC hSw ca2;have kca3:=keepC hSw ca3;have kcx0:=keepC hSw cx0;have kcx1:=keepC hSw cx1;have kcx2:=keepC hSw cx2;have kcx3:=keepC hSw cx3;go_simp <;> with_reducible rfl) ?_;(try simp only [PPz]);refine tkd 9 ?_;refine tkd 10 ?_;refine tkd 11 ?_;refine tkd 12 ?_;(try simp only [PPz]);refine tkm 13 rfl hHeld (fun w hSw => by have kca0:=keepC hSw ca0;have kca1:=keepC hSw ca1;have kca2:=keepC hSw ca2;have kca3:=keepC hSw ca3;have kcx0:=keepC hSw cx0;have kcx1:=keepC hSw cx1;have kcx2:=keepC hSw cx2;have kcx3:=keepC hSw cx3;go_simp <;> with_reducible rfl) ?_;(try simp only [PPz]);refine rdy1 14 rfl (fun K hK => ?_);go_simp;refine (LS.out _).mono ?_;rintro e wq15 ⟨rfl,hb3⟩;(go_wp2_with fail);refine hK.out _ _ (keepB hHeld hb3) (fun hNew => ?_);replace hHeld:=hNew;clear hNew hK K hb3;(try simp only [PPz]);refine tkd 15 ?_;refine tkd 16 ?_;(try simp only [PPz]);refine wpAnyH_done (by kernel_rfl) ?_ _;(go_wp2_with fail)
      go_meet
      exact ⟨rfl,hHeld⟩
     case rest =>
      obtain ⟨rfl,hb⟩:=hcut;replace hB:=hB.keep hb;replace hG:=hG.below hb;clear hb ca0 ca1 ca2 ca3 cx0 cx1 cx2 cx3
      by_cases hrn : r < 0
      ·rw [decide_eq_true hrn]
       have hxa:=Lib.hid (HNG.out.1 hrn);clear hrn
       go_upto_region 6 with fail
       refine at_worldQ (fun v => BK v p (Pc.cells4 A' ++ .int .i64 a0 :: .int .i64 a1 :: .int .i64 a2 :: .int .i64 a3 :: .int .i64 x0 :: .int .i64 x1 :: .int .i64 x2 :: .int .i64 x3 :: Pc.cells4 (B ++ R))∧GB (fun z => z = p) w v) ⟨hB,hG⟩ (fun V2 hV => ?_);clear hB hG;obtain ⟨hB,hG⟩:=hV;have ca0:=hB.c (jp * 4) (x:=.int .i64 a0) (by rw [show jp * 4 = jp * 4 + 0 by omega,Pf.cell_off HL4.out];rfl);have fa0:=hB.f (jp * 4) (x:=.int .i64 a0) (by rw [show jp * 4 = jp * 4 + 0 by omega,Pf.cell_off HL4.out];rfl);have ca1:=hB.c (jp * 4 + 1) (x:=.int .i64 a1) (by rw [show jp * 4 + 1 = jp * 4 + 1 by omega,Pf.cell_off HL4.out];rfl);have fa1:=hB.f (jp * 4 + 1) (x:=.int .i64 a1) (by rw [show jp * 4 + 1 = jp * 4 + 1 by omega,Pf.cell_off HL4.out];rfl);have ca2:=hB.c (jp * 4 + 2) (x:=.int .i64 a2) (by rw [show jp * 4 + 2 = jp * 4 + 2 by omega,Pf.cell_off HL4.out];rfl);have fa2:=hB.f (jp * 4 + 2) (x:=.int .i64 a2) (by rw [show jp * 4 + 2 = jp * 4 + 2 by omega,Pf.cell_off HL4.out];rfl);have ca3:=hB.c (jp * 4 + 3) (x:=.int .i64 a3) (by rw [show jp * 4 + 3 = jp * 4 + 3 by omega,Pf.cell_off HL4.out];rfl);have fa3:=hB.f (jp * 4 + 3) (x:=.int .i64 a3) (by rw [show jp * 4 + 3 = jp * 4 + 3 by omega,Pf.cell_off HL4.out];rfl);have cx0:=hB.c ((jp + 1) * 4) (x:=.int .i64 x0) (by rw [show (jp + 1) * 4 = jp * 4 + 4 by omega,Pf.cell_off HL4.out];rfl);have fx0:=hB.f ((jp + 1) * 4) (x:=.int .i64 x0) (by rw [show (jp + 1) * 4 = jp * 4 + 4 by omega,Pf.cell_off HL4.out];rfl);have cx1:=hB.c ((jp + 1) * 4 + 1) (x:=.int .i64 x1) (by rw [show (jp + 1) * 4 + 1 = jp * 4 + 5 by omega,Pf.cell_off HL4.out];rfl);have fx1:=hB.f ((jp + 1) * 4 + 1) (x:=.int .i64 x1) (by rw [show (jp + 1) * 4 + 1 = jp * 4 + 5 by omega,Pf.cell_off HL4.out];rfl);have cx2:=hB.c ((jp + 1) * 4 + 2) (x:=.int .i64 x2) (by rw [show (jp + 1) * 4 + 2 = jp * 4 + 6 by omega,Pf.cell_off HL4.out];rfl);have fx2:=hB.f ((jp + 1) * 4 + 2) (x:=.int .i64 x2) (by rw [show (jp + 1) * 4 + 2 = jp * 4 + 6 by omega,Pf.cell_off HL4.out];rfl);have cx3:=hB.c ((jp + 1) * 4 + 3) (x:=.int .i64 x3) (by rw [show (jp + 1) * 4 + 3 = jp * 4 + 7 by omega,Pf.cell_off HL4.out];rfl);have fx3:=hB.f ((jp + 1) * 4 + 3) (x:=.int .i64 x3) (by rw [show (jp + 1) * 4 + 3 = jp * 4 + 7 by omega,Pf.cell_off HL4.out];rfl)
       go_big_region
       all_goals go_wp2_with fail
       go_roundw
       case rel =>
        refine ⟨jp,A',a :: B,by go_num,by omega,Lib.hid ⟨by have:=hAB.out.1;simp at this;omega,by have:=hAB.out.2;simp at this ⊢;omega⟩,Lib.hid ?_,Lib.hid ⟨by have:=hS.out.1;simpa using this,fun b hb => ?_⟩,?_,?_⟩
        ·exact ((List.Perm.swap a x (B ++ R)).append_left A').trans hP.out
        ·rcases List.mem_cons.1 hb with rfl | hb
         ·exact hxa.out
         ·exact hS.out.2 b hb
        ·rw [show Pc.cells4 (A' ++ x :: (a :: B ++ R)) = Pc.cells4 A' ++ .int .i64 x0 :: .int .i64 x1 :: .int .i64 x2 :: .int .i64 x3 :: .int .i64 a0 :: .int .i64 a1 :: .int .i64 a2 :: .int .i64 a3 :: Pc.cells4 (B ++ R) from (by
          obtain ⟨⟨q0,q1,q2,q3⟩,q4,q5,q6,q7⟩:=HEQ.out;rw [Pc.cells4_app,List.cons_append,Pf.cells4_cons,Pf.cells4_cons,← q0,← q1,← q2,← q3,← q4,← q5,← q6,← q7]
          rfl),← Pf.swap8 HL4.out]
         exact Pf.bk_drew ((((((((hB.set _ _).set _ _).set _ _).set _ _).set _ _).set _ _).set _ _).set _ _)
        ·exact ((((((((hG.set (.inl rfl) _).set (.inl rfl) _).set (.inl rfl) _).set (.inl rfl) _).set (.inl rfl) _).set (.inl rfl) _).set (.inl rfl) _).set (.inl rfl) _).drew
       case measure => (simp [intOf] <;> omega)
      ·rw [decide_eq_false hrn]
       have hxa:=Lib.hid (fun h => hrn (HNG.out.2 h));clear hrn;(go_wp2_with fail)
       go_roundw
       case rel =>
        refine ⟨k + 1,A' ++ a :: x :: B,R,by go_num,by omega,fun _ => (by have:=hAB.out.2;simp at this ⊢;omega),fun h => (by omega),Lib.hid ?_,Lib.hid ?_,?_,hG⟩
        ·have:=hP.out
         simpa using this
        ·have:=Pf.Srt.snoc (x:=x) hS.out.1 hS.out.2 (fun a' h => (by
          rw [List.getLast?_append] at h
          obtain rfl : a = a':=by simpa using h
          exact Rat.not_lt.1 hxa.out))
         simpa using this
        ·rw [show (A' ++ a :: x :: B) ++ R = A' ++ a :: x :: (B ++ R) by simp,HC4.out]
         exact hB
       case measure => (simp [intOf] <;> omega)
  ·have i1 : ¬ (k : Int) < (n : Int):=by omega
   have hC : C = []:=by
    have h1:=hP.out.length_eq;have h3:=HN.out;rw [List.length_append] at h1
    by_cases h : k ≤ n
    ·have:=hkn h
     exact List.eq_nil_of_length_eq_zero (by omega)
    ·have:=hk0 (by omega)
     exact List.eq_nil_of_length_eq_zero (by omega)
   subst hC;rw [List.append_nil] at hP hB;(go_wp2_with fail)
   go_end0
   exact ⟨rfl,S,hP.out,hS.out,hB,hG⟩
theorem knpdq_any (p n cap : Nat) (lim : Int) (L : List (Rat × Rat)) (w : World) (hn : L.length = n) (h12 : n ≤ 12) (hf : ∀ s ∈ L,Pc.Fit s.1) (hB : BK w p (Pc.cells4 L)) :
 Calls Tryz.prog 156 #[.slice (some ⟨p,0,none⟩) n cap,.int .i64 0,.int .i64 (n : Nat),.int .i64 lim,.func (.func 120) #[] #[]] w fun e w' => e = .returned (.tuple #[])∧SrtQ p L w w':=by
 have ii:=knins_any p n cap L w hn h12 hf hB;have t1 : IntKind.i64.wrap (n : Int) = (n : Int):=IntWalk.i64_in _ (by omega)
 have t2 : (n : Int) ≤ 12:=by omega
 have II:=Lib.hid ii;clear ii hn hf hB
 go_enter Tryz.func156,Tryz.ntmps156
 (go_wp2_with fail);refine wp_loop_rounds 1 ?_;rw [rounds_succ];(go_wp2_with fail);refine II.out.mono ?_;rintro e w1 ⟨rfl,hq⟩;(go_wp2_with fail)
 (try simp only [Exit.inBlock,Exit.then]);refine bodyPost_ret (results_none rfl _ _ _) rfl ?_
 exact ⟨rfl,hq⟩
theorem knsort_any (p n cap : Nat) (L : List (Rat × Rat)) (w : World) (hn : L.length = n) (h12 : n ≤ 12) (hf : ∀ s ∈ L,Pc.Fit s.1) (hB : BK w p (Pc.cells4 L)) :
 Calls Tryz.prog 119 #[.slice (some ⟨p,0,none⟩) n cap,.func (.func 120) #[] #[]] w fun e w' => e = .returned (.tuple #[])∧SrtQ p L w w':=by
 have ii:=fun lim => knpdq_any p n cap lim L w hn h12 hf hB
 have ll:=len64_any (n : Int) (by omega) (by omega) w
 have t1 : IntKind.u64.wrap (n : Int) = (n : Int):=by simp [IntKind.wrap,IntKind.bits,IntKind.signed];omega
 generalize (Lib.bitLen (n : Int).toNat : Int) = b at ll
 have II:=Lib.hid ii;have LL:=Lib.hid ll
 have hL : Calls Tryz.prog 43 #[.int .u64 (n : Int)] w fun e w' => e = .returned (.int .i64 b)∧w = w':=by
  clear ii ll hn hf hB
  go_enter Tryz.func43,Tryz.ntmps43
  (go_wp2_with fail);refine LL.out.mono ?_;rintro e w1 ⟨rfl,rfl⟩;(go_wp2_with fail)
  go_ret
  exact ⟨rfl,rfl⟩
 have HL:=Lib.hid hL;clear ii ll hL hn hf hB LL
 go_enter Tryz.func119,Tryz.ntmps119
 (go_wp2_with fail);refine HL.out.mono ?_;rintro e w1 ⟨rfl,rfl⟩;(go_wp2_with fail);refine (II.out _).mono ?_;rintro e w1 ⟨rfl,hq⟩;(go_wp2_with fail)
 go_end0
 exact ⟨rfl,hq⟩
end Go.Proofs.YtogmfebphiglaaaGreat


