/- Package proof: slices.SortFunc of a few spans, by where they begin. Package proof: leavesSome, of a few spans. Package proof: Make and Accept of divisions of few spans. -/
import Derived.Deep.CutBlock
import Derived.Deep.DeepCutAuto
import Derived.Test.YtogmfebphiglaaaGreatHc
import Derived.Test.YtogmfebphiglaaaGreatHi
set_option linter.unusedSimpArgs false
set_option maxHeartbeats 8000000
set_option maxRecDepth 100000
namespace Go.Proofs.YtogmfebphiglaaaGreat
open Go.RowKit
namespace Pf
/-- By where they begin. -/
def Srt (L : List (Rat × Rat)) : Prop:=L.Pairwise fun a b => a.1 ≤ b.1
def spc (a : Rat × Rat) : List Value:=[.int .i64 a.1.num,.int .i64 (a.1.den : Int),.int .i64 a.2.num,.int .i64 (a.2.den : Int)]
theorem cells4_cons (a : Rat × Rat) (R : List (Rat × Rat)) : Pc.cells4 (a :: R) = spc a ++ Pc.cells4 R:=rfl
theorem set_off {α : Type} {l m : List α} {j : Nat} (h : l.length = j) (i : Nat) (v : α) : (l ++ m).set (j + i) v = l ++ m.set i v:=by
 rw [← h,List.set_append_right _ _ (Nat.le_add_right _ _)]
 simp
theorem swap8 {l R : List Value} {j : Nat} (h : l.length = j * 4) (a0 a1 a2 a3 x0 x1 x2 x3 : Value) :
 ((((((((l ++ a0 :: a1 :: a2 :: a3 :: x0 :: x1 :: x2 :: x3 :: R).set ((j + 1) * 4) a0).set ((j + 1) * 4 + 1) a1).set ((j + 1) * 4 + 2) a2).set ((j + 1) * 4 + 3) a3).set (j * 4) x0).set (j * 4 + 1) x1).set (j * 4 + 2) x2).set (j * 4 + 3) x3 = l ++ x0 :: x1 :: x2 :: x3 :: a0 :: a1 :: a2 :: a3 :: R:=by
 rw [show (j + 1) * 4 = j * 4 + 4 by omega,show j * 4 + 4 + 1 = j * 4 + 5 by omega,show j * 4 + 4 + 2 = j * 4 + 6 by omega,show j * 4 + 4 + 3 = j * 4 + 7 by omega];rw [set_off h,set_off h,set_off h,set_off h];have e:=set_off (m:=(((((a0 :: a1 :: a2 :: a3 :: x0 :: x1 :: x2 :: x3 :: R).set 4 a0).set 5 a1).set 6 a2).set 7 a3)) h 0 x0;rw [Nat.add_zero] at e;rw [e,set_off h,set_off h,set_off h]
 rfl
theorem cell_off {l m : List Value} {j : Nat} (h : l.length = j) (i : Nat) : (l ++ m)[j + i]? = m[i]?:=by
 rw [← h,List.getElem?_append_right (Nat.le_add_right _ _)]
 simp
theorem bk_drew {v : World} {p : Nat} {l : List Value} (h : BK v p l) : BK v.drew p l:=h
theorem Srt.snoc {A B : List (Rat × Rat)} (h : Srt (A ++ B)) {x : Rat × Rat} (hb : ∀ b ∈ B,x.1 < b.1) (ha : ∀ a ∈ A.getLast?,a.1 ≤ x.1) : Srt (A ++ x :: B):=by
 unfold Srt at h ⊢
 rw [List.pairwise_append] at h ⊢;obtain ⟨h1,h2,h3⟩:=h
 have hax : ∀ a ∈ A,a.1 ≤ x.1:=fun a hm => by
  rcases List.eq_nil_or_concat A with rfl | ⟨A',l,rfl⟩
  ·cases hm
  ·have hl:=ha l (by simp)
   rw [List.concat_eq_append] at hm h1
   rcases List.mem_append.1 hm with hm | hm
   ·have:=(List.pairwise_append.1 h1).2.2 a hm l (by simp)
    exact Rat.le_trans this hl
   ·rw [List.mem_singleton.1 hm];exact hl
 refine ⟨h1,List.pairwise_cons.2 ⟨fun b hm => Rat.le_of_lt (hb b hm),h2⟩,fun a hm b hb' => ?_⟩
 rcases List.mem_cons.1 hb' with rfl | hb'
 ·exact hax a hm
 ·exact h3 a hm b hb'
end Pf
theorem pfls1_any (n d m c n2 d2 m2 c2 : Int) (h : Rp.Ok n d) (k : Rp.Ok m c) (w : World) :
 Calls Tryz.prog 197 #[.agg #[.int .i64 n,.int .i64 d,.int .i64 n2,.int .i64 d2],.agg #[.int .i64 m,.int .i64 c,.int .i64 m2,.int .i64 c2]] w fun e w' => e = .returned (.int .i64 (Rp.cmpQ (Rp.q n d) (Rp.q m c)))∧Below w.heap.size w w':=by
 have cc:=fun w => pfcompare_any n d m c h k w
 generalize Rp.cmpQ (Rp.q n d) (Rp.q m c) = R at *
 have CC:=Lib.hid cc;clear cc h k
 go_enter Tryz.func197,Tryz.ntmps197
 (go_wp2_with fail);refine (CC.out _).mono ?_;rintro e w1 ⟨rfl,hb1⟩;have hbb : Below w.heap.size w w1:=keepB (((Below.refl _ _).alloc (Nat.le_refl _) _).alloc (by simp) _) hb1;clear hb1 CC;(go_wp2_with fail)
 go_ret
 exact ⟨rfl,hbb⟩
/-- What a sort leaves: the row holds the same spans, by where they begin. -/
def SrtQ (p : Nat) (L : List (Rat × Rat)) (w w' : World) : Prop:=∃ M : List (Rat × Rat),M.Perm L∧Pf.Srt M∧BK w' p (Pc.cells4 M)∧GB (fun k => k = p) w w'
theorem pfins_any (p n cap : Nat) (L : List (Rat × Rat)) (w : World) (hn : L.length = n) (h12 : n ≤ 12) (hf : ∀ s ∈ L,Pc.Fit s.1) (hB : BK w p (Pc.cells4 L)) :
 Calls Tryz.prog 231 #[.slice (some ⟨p,0,none⟩) n cap,.int .i64 0,.int .i64 (n : Nat),.func (.func 197) #[] #[]] w fun e w' => e = .returned (.tuple #[])∧SrtQ p L w w':=by
 have HF:=Lib.hid hf;have HN:=Lib.hid hn
 have hE : ∀ x y v,Sem.run Tryz.prog (callFunc 197 #[x,y]) v = .ok (.enter 197 #[x,y]) v:=fun x y v => by go_simp
 clear hf hn
 go_enter Tryz.func231,Tryz.ntmps231
 go_wp2_with fail
 go_loopw [8] (fun i v => ∃ (k : Nat) (S C : List (Rat × Rat)),i = .int .i64 (k : Nat)∧1 ≤ k∧(k ≤ n → S.length = k)∧(n < k → n = 0)∧Hid ((S ++ C).Perm L)∧Hid (Pf.Srt S)∧BK v p (Pc.cells4 (S ++ C))∧GB (fun z => z = p) w v) (fun i _ => n + 1 - (intOf i).toNat)
 case atStart =>
  cases hL : L with
  | nil => exact ⟨1,[],[],rfl,by omega,fun h => (by have:=HN.out;rw [hL] at this;simp at this;omega),fun _ => (by have:=HN.out;rw [hL] at this;simpa using this.symm),Lib.hid (List.Perm.refl _),Lib.hid List.Pairwise.nil,(by rw [hL] at hB;exact hB),GB.refl _ _⟩
  | cons s T => exact ⟨1,[s],T,rfl,by omega,fun _ => rfl,fun h => (by have:=HN.out;rw [hL] at this;simp at this;omega),Lib.hid (List.Perm.refl _),Lib.hid (List.pairwise_singleton _ _),(by rw [hL] at hB;exact hB),GB.refl _ _⟩
 case round =>
  clear hB;obtain ⟨k,S,C,rfl,hk1,hkn,hk0,hP,hS,hB,hG⟩:=hrel
  by_cases hlt : k < n
  ·have i1 : (k : Int) < (n : Int):=by omega
   have hSk:=Lib.hid (hkn (by omega))
   obtain ⟨x,R,hC⟩ : ∃ x R,C = x :: R:=by
    cases C with
    | nil =>
     have h1:=hP.out.length_eq;have h2:=hSk.out;have h3:=HN.out;rw [List.append_nil] at h1
     omega
    | cons x R => exact ⟨x,R,rfl⟩
   subst hC;clear hkn hk0;(go_wp2_with fail)
   go_loopw [9] (fun j v => ∃ (jj : Nat) (A B : List (Rat × Rat)),j = .int .i64 (jj : Nat)∧jj ≤ k∧Hid (A.length = jj∧(A ++ B).length = k)∧Hid ((A ++ x :: (B ++ R)).Perm L)∧Hid (Pf.Srt (A ++ B)∧∀ b ∈ B,x.1 < b.1)∧BK v p (Pc.cells4 (A ++ x :: (B ++ R)))∧GB (fun z => z = p) w v) (fun j _ => (intOf j).toNat)
   case atStart => exact ⟨k,S,[],rfl,Nat.le_refl _,Lib.hid ⟨hSk.out,by rw [List.append_nil];exact hSk.out⟩,hP,Lib.hid ⟨by rw [List.append_nil];exact hS.out,fun b h => (by cases h)⟩,hB,hG⟩
   case round =>
    clear hB hG hP hS hSk;obtain ⟨j,A,B,rfl,hjk,hAB,hP,hS,hB,hG⟩:=hrel
    rcases List.eq_nil_or_concat A with hA | ⟨A',a,hA⟩
    ·subst hA
     obtain rfl : 0 = j:=hAB.out.1
     go_upto_region 4 with fail
     refine at_worldQ (fun v => BK v p (Pc.cells4 ([] ++ x :: (B ++ R)))∧GB (fun z => z = p) w v) ⟨hB,hG⟩ (fun V hV => ?_);clear hB hG;obtain ⟨hB,hG⟩:=hV
     have j0 : decide ((0 : Int) > 0) = false:=by decide
     go_cut [34] (fun t v => t = .bool false∧Below V.heap.size V v)
     case first =>
      refine wp_region_held_drew (S:=(Below V.heap.size V)) (by kernel_rfl) ((Below.refl _ _).drew) (fun hHeld => ?_);refine at_anyH (Below V.heap.size V) hHeld (fun wo0 hNew => ?_);clear hHeld;have hHeld:=hNew;clear hNew;refine tkd 0 ?_;refine tkd 1 ?_;refine tkd 2 ?_;refine tkd 3 ?_;(try simp only [PPz]);refine tkns 4 rfl hHeld ?_;(try simp only [PPz]);refine tkns 5 rfl hHeld ?_;(try simp only [PPz]);refine tkns 6 rfl hHeld ?_;(try simp only [PPz]);refine tkns 7 rfl hHeld ?_;(try simp only [PPz]);refine tkns 8 rfl hHeld ?_;(try simp only [PPz]);refine tkns 9 rfl hHeld ?_;(try simp only [PPz]);refine tkns 10 rfl hHeld ?_;(try simp only [PPz]);refine tkns 11 rfl hHeld ?_;(try simp only [PPz]);refine tkns 12 rfl hHeld ?_;(try simp only [PPz]);refine tkns 13 rfl hHeld ?_;(try simp only [PPz]);refine tkns 14 rfl hHeld ?_;(try simp only [PPz]);refine tkns 15 rfl hHeld ?_;(try simp only [PPz]);refine tkd 16 ?_;(try simp only [PPz]);refine wpAnyH_done (by kernel_rfl) ?_ _;(go_wp2_with fail)
      go_meet
      exact ⟨rfl,hHeld⟩
     case rest =>
      obtain ⟨rfl,hb⟩:=hcut;replace hB:=hB.keep hb;replace hG:=hG.below hb;clear hb;(go_wp2_with fail)
      go_roundw
      case rel => exact ⟨k + 1,x :: B,R,by go_num,by omega,fun _ => (by have:=hAB.out.2;simpa using this),fun h => (by omega),Lib.hid hP.out,Lib.hid (Pf.Srt.snoc (A:=[]) hS.out.1 hS.out.2 (fun a h => (by cases h))),hB,hG⟩
      case measure => (simp [intOf] <;> omega)
    ·rw [List.concat_eq_append] at hA
     subst hA;obtain ⟨jp,hjp⟩ : ∃ z,A'.length = z:=⟨_,rfl⟩
     have hj : j = jp + 1:=by have:=hAB.out.1;simp at this;omega
     subst hj
     have hAx : (A' ++ [a]) ++ x :: (B ++ R) = A' ++ a :: x :: (B ++ R):=by simp
     rw [hAx] at hP hB
     have hc4 : Pc.cells4 (A' ++ a :: x :: (B ++ R)) = Pc.cells4 A' ++ .int .i64 a.1.num :: .int .i64 (a.1.den : Int) :: .int .i64 a.2.num :: .int .i64 (a.2.den : Int) :: .int .i64 x.1.num :: .int .i64 (x.1.den : Int) :: .int .i64 x.2.num :: .int .i64 (x.2.den : Int) :: Pc.cells4 (B ++ R):=by
      rw [Pc.cells4_app,Pf.cells4_cons,Pf.cells4_cons]
      rfl
     have hl4 : (Pc.cells4 A').length = jp * 4:=by rw [Pc.cells4_len,hjp]
     have fa : Rp.Ok a.1.num (a.1.den : Int):=HF.out a (hP.out.mem_iff.1 (by simp));have fx : Rp.Ok x.1.num (x.1.den : Int):=HF.out x (hP.out.mem_iff.1 (by simp))
     have ls:=fun v => pfls1_any x.1.num (x.1.den : Int) a.1.num (a.1.den : Int) x.2.num (x.2.den : Int) a.2.num (a.2.den : Int) fx fa v
     rw [show Rp.q x.1.num (x.1.den : Int) = x.1 from Rp.q_self _,show Rp.q a.1.num (a.1.den : Int) = a.1 from Rp.q_self _] at ls;have hneg:=decide_eq_decide.1 (Rp.cmpQ_neg x.1 a.1);obtain ⟨r,hr⟩ : ∃ z,Rp.cmpQ x.1 a.1 = z:=⟨_,rfl⟩;rw [hr] at ls hneg;have LS:=Lib.hid ls;have HNG:=Lib.hid hneg;have HL4:=Lib.hid hl4;have HC4:=Lib.hid hc4;rw [hc4] at hB;obtain ⟨a0,ea0⟩ : ∃ z,a.1.num = z:=⟨_,rfl⟩;obtain ⟨a1,ea1⟩ : ∃ z,(a.1.den : Int) = z:=⟨_,rfl⟩;obtain ⟨a2,ea2⟩ : ∃ z,a.2.num = z:=⟨_,rfl⟩;obtain ⟨a3,ea3⟩ : ∃ z,(a.2.den : Int) = z:=⟨_,rfl⟩;obtain ⟨x0,ex0⟩ : ∃ z,x.1.num = z:=⟨_,rfl⟩;obtain ⟨x1,ex1⟩ : ∃ z,(x.1.den : Int) = z:=⟨_,rfl⟩;obtain ⟨x2,ex2⟩ : ∃ z,x.2.num = z:=⟨_,rfl⟩;obtain ⟨x3,ex3⟩ : ∃ z,(x.2.den : Int) = z:=⟨_,rfl⟩;rw [ea0,ea1,ea2,ea3,ex0,ex1,ex2,ex3] at hB LS HC4;have HEQ:=Lib.hid (show (a.1.num = a0∧(a.1.den : Int) = a1∧a.2.num = a2∧(a.2.den : Int) = a3)∧x.1.num = x0∧(x.1.den : Int) = x1∧x.2.num = x2∧(x.2.den : Int) = x3 from ⟨⟨ea0,ea1,ea2,ea3⟩,ex0,ex1,ex2,ex3⟩);clear ls hneg hr hl4 hc4 hAx fa fx ea0 ea1 ea2 ea3 ex0 ex1 ex2 ex3 hjp
     have t5 : (0 : Int) ≤ (jp : Int) + 1:=by omega
     have t6 : IntKind.i64.wrap (jp : Int) = (jp : Int):=IntWalk.i64_in _ (by omega)
     have t8 : IntKind.i64.wrap ((jp : Int) + 1 - 1) = (jp : Int):=by rw [show (jp : Int) + 1 - 1 = (jp : Int) by omega];exact t6
     have t7 : ((jp : Int) + 1).toNat = jp + 1:=by omega
     have t9 : (jp : Int) + 1 < (n : Int):=by omega
     have t10 : (jp : Int) < (n : Int):=by omega
     have t11 : (0 : Int) < (jp : Int) + 1:=by omega
     have t12 : (0 : Int) ≤ (jp : Int):=by omega
     have t13 : ((jp + 1 : Nat) : Int) = (jp : Int) + 1:=by omega
     rw [t13]
     go_upto_region 4 with fail
     refine at_worldQ (fun v => BK v p (Pc.cells4 A' ++ .int .i64 a0 :: .int .i64 a1 :: .int .i64 a2 :: .int .i64 a3 :: .int .i64 x0 :: .int .i64 x1 :: .int .i64 x2 :: .int .i64 x3 :: Pc.cells4 (B ++ R))∧GB (fun z => z = p) w v) ⟨hB,hG⟩ (fun V hV => ?_);clear hB hG;obtain ⟨hB,hG⟩:=hV;have ca0:=hB.c (jp * 4) (x:=.int .i64 a0) (by rw [show jp * 4 = jp * 4 + 0 by omega,Pf.cell_off HL4.out];rfl);have ca1:=hB.c (jp * 4 + 1) (x:=.int .i64 a1) (by rw [show jp * 4 + 1 = jp * 4 + 1 by omega,Pf.cell_off HL4.out];rfl);have ca2:=hB.c (jp * 4 + 2) (x:=.int .i64 a2) (by rw [show jp * 4 + 2 = jp * 4 + 2 by omega,Pf.cell_off HL4.out];rfl);have ca3:=hB.c (jp * 4 + 3) (x:=.int .i64 a3) (by rw [show jp * 4 + 3 = jp * 4 + 3 by omega,Pf.cell_off HL4.out];rfl);have cx0:=hB.c ((jp + 1) * 4) (x:=.int .i64 x0) (by rw [show (jp + 1) * 4 = jp * 4 + 4 by omega,Pf.cell_off HL4.out];rfl);have cx1:=hB.c ((jp + 1) * 4 + 1) (x:=.int .i64 x1) (by rw [show (jp + 1) * 4 + 1 = jp * 4 + 5 by omega,Pf.cell_off HL4.out];rfl);have cx2:=hB.c ((jp + 1) * 4 + 2) (x:=.int .i64 x2) (by rw [show (jp + 1) * 4 + 2 = jp * 4 + 6 by omega,Pf.cell_off HL4.out];rfl);have cx3:=hB.c ((jp + 1) * 4 + 3) (x:=.int .i64 x3) (by rw [show (jp + 1) * 4 + 3 = jp * 4 + 7 by omega,Pf.cell_off HL4.out];rfl)
     go_cut [34] (fun t v => t = .bool (decide (r < 0))∧Below V.heap.size V v)
     case first =>
      refine wp_region_held_drew (S:=(Below V.heap.size V)) (by kernel_rfl) ((Below.refl _ _).drew) (fun hHeld => ?_);refine at_anyH (Below V.heap.size V) hHeld (fun wq0 hNew => ?_);clear hHeld;have hHeld:=hNew;clear hNew;refine tkd 0 ?_;refine tkd 1 ?_;refine tkd 2 ?_;refine tkd 3 ?_;refine tkd 4 ?_;refine tkd 5 ?_;refine tkd 6 ?_;refine tkd 7 ?_;(try simp only [PPz]);refine tkm 8 rfl hHeld (fun w hSw => by have kca0:=keepC hSw ca0;have kca1:=keepC hSw ca1;have kca2:=keepC hSw ca2;have kca3:=keepC hSw ca3;have kcx0:=keepC hSw cx0;have kcx1:=keepC hSw cx1;have kcx2:=keepC hSw cx2;have kcx3:=keepC hSw cx3;go_simp <;> with_reducible rfl) ?_;(try simp only [PPz]);refine tkd 9 ?_;refine tkd 10 ?_;refine tkd 11 ?_;refine tkd 12 ?_;(try simp only [PPz]);refine tkm 13 rfl hHeld (fun w hSw => by have kca0:=keepC hSw ca0;have kca1:=keepC hSw ca1;have kca2:=keepC hSw ca2;have kca3:=keepC hSw ca3;have kcx0:=keepC hSw cx0;have kcx1:=keepC hSw cx1;have kcx2:=keepC hSw cx2;have kcx3:=keepC hSw cx3;go_simp <;> with_reducible rfl) ?_;(try simp only [PPz]);refine rdy1 14 rfl (fun K hK => ?_);go_simp;refine (LS.out _).mono ?_;rintro e wq15 ⟨rfl,hb3⟩;(go_wp2_with fail);refine hK.out _ _ (keepB hHeld hb3) (fun hNew => ?_);replace hHeld:=hNew;clear hNew hK K hb3;(try simp only [PPz]);refine tkd 15 ?_;refine tkd 16 ?_;(try simp only [PPz]);refine wpAnyH_done (by kernel_rfl) ?_ _;(go_wp2_with fail)
      go_meet
      exact ⟨rfl,hHeld⟩
     case rest =>
      obtain ⟨rfl,hb⟩:=hcut;replace hB:=hB.keep hb;replace hG:=hG.below hb;clear hb ca0 ca1 ca2 ca3 cx0 cx1 cx2 cx3
      by_cases hrn : r < 0
      ·rw [decide_eq_true hrn]
       have hxa:=Lib.hid (HNG.out.1 hrn);clear hrn
       go_upto_region 6 with fail
       refine at_worldQ (fun v => BK v p (Pc.cells4 A' ++ .int .i64 a0 :: .int .i64 a1 :: .int .i64 a2 :: .int .i64 a3 :: .int .i64 x0 :: .int .i64 x1 :: .int .i64 x2 :: .int .i64 x3 :: Pc.cells4 (B ++ R))∧GB (fun z => z = p) w v) ⟨hB,hG⟩ (fun V2 hV => ?_);clear hB hG;obtain ⟨hB,hG⟩:=hV;have ca0:=hB.c (jp * 4) (x:=.int .i64 a0) (by rw [show jp * 4 = jp * 4 + 0 by omega,Pf.cell_off HL4.out];rfl);have fa0:=hB.f (jp * 4) (x:=.int .i64 a0) (by rw [show jp * 4 = jp * 4 + 0 by omega,Pf.cell_off HL4.out];rfl);have ca1:=hB.c (jp * 4 + 1) (x:=.int .i64 a1) (by rw [show jp * 4 + 1 = jp * 4 + 1 by omega,Pf.cell_off HL4.out];rfl);have fa1:=hB.f (jp * 4 + 1) (x:=.int .i64 a1) (by rw [show jp * 4 + 1 = jp * 4 + 1 by omega,Pf.cell_off HL4.out];rfl);have ca2:=hB.c (jp * 4 + 2) (x:=.int .i64 a2) (by rw [show jp * 4 + 2 = jp * 4 + 2 by omega,Pf.cell_off HL4.out];rfl);have fa2:=hB.f (jp * 4 + 2) (x:=.int .i64 a2) (by rw [show jp * 4 + 2 = jp * 4 + 2 by omega,Pf.cell_off HL4.out];rfl);have ca3:=hB.c (jp * 4 + 3) (x:=.int .i64 a3) (by rw [show jp * 4 + 3 = jp * 4 + 3 by omega,Pf.cell_off HL4.out];rfl);have fa3:=hB.f (jp * 4 + 3) (x:=.int .i64 a3) (by rw [show jp * 4 + 3 = jp * 4 + 3 by omega,Pf.cell_off HL4.out];rfl);have cx0:=hB.c ((jp + 1) * 4) (x:=.int .i64 x0) (by rw [show (jp + 1) * 4 = jp * 4 + 4 by omega,Pf.cell_off HL4.out];rfl);have fx0:=hB.f ((jp + 1) * 4) (x:=.int .i64 x0) (by rw [show (jp + 1) * 4 = jp * 4 + 4 by omega,Pf.cell_off HL4.out];rfl);have cx1:=hB.c ((jp + 1) * 4 + 1) (x:=.int .i64 x1) (by rw [show (jp + 1) * 4 + 1 = jp * 4 + 5 by omega,Pf.cell_off HL4.out];rfl);have fx1:=hB.f ((jp + 1) * 4 + 1) (x:=.int .i64 x1) (by rw [show (jp + 1) * 4 + 1 = jp * 4 + 5 by omega,Pf.cell_off HL4.out];rfl);have cx2:=hB.c ((jp + 1) * 4 + 2) (x:=.int .i64 x2) (by rw [show (jp + 1) * 4 + 2 = jp * 4 + 6 by omega,Pf.cell_off HL4.out];rfl);have fx2:=hB.f ((jp + 1) * 4 + 2) (x:=.int .i64 x2) (by rw [show (jp + 1) * 4 + 2 = jp * 4 + 6 by omega,Pf.cell_off HL4.out];rfl);have cx3:=hB.c ((jp + 1) * 4 + 3) (x:=.int .i64 x3) (by rw [show (jp + 1) * 4 + 3 = jp * 4 + 7 by omega,Pf.cell_off HL4.out];rfl);have fx3:=hB.f ((jp + 1) * 4 + 3) (x:=.int .i64 x3) (by rw [show (jp + 1) * 4 + 3 = jp * 4 + 7 by omega,Pf.cell_off HL4.out];rfl)
       go_big_region
       all_goals go_wp2_with fail
       go_roundw
       case rel =>
        refine ⟨jp,A',a :: B,by go_num,by omega,Lib.hid ⟨by have:=hAB.out.1;simp at this;omega,by have:=hAB.out.2;simp at this ⊢;omega⟩,Lib.hid ?_,Lib.hid ⟨by have:=hS.out.1;simpa using this,fun b hb => ?_⟩,?_,?_⟩
        ·exact ((List.Perm.swap a x (B ++ R)).append_left A').trans hP.out
        ·rcases List.mem_cons.1 hb with rfl | hb
         ·exact hxa.out
         ·exact hS.out.2 b hb
        ·rw [show Pc.cells4 (A' ++ x :: (a :: B ++ R)) = Pc.cells4 A' ++ .int .i64 x0 :: .int .i64 x1 :: .int .i64 x2 :: .int .i64 x3 :: .int .i64 a0 :: .int .i64 a1 :: .int .i64 a2 :: .int .i64 a3 :: Pc.cells4 (B ++ R) from (by
          obtain ⟨⟨q0,q1,q2,q3⟩,q4,q5,q6,q7⟩:=HEQ.out;rw [Pc.cells4_app,List.cons_append,Pf.cells4_cons,Pf.cells4_cons,← q0,← q1,← q2,← q3,← q4,← q5,← q6,← q7]
          rfl),← Pf.swap8 HL4.out]
         exact Pf.bk_drew ((((((((hB.set _ _).set _ _).set _ _).set _ _).set _ _).set _ _).set _ _).set _ _)
        ·exact ((((((((hG.set (.inl rfl) _).set (.inl rfl) _).set (.inl rfl) _).set (.inl rfl) _).set (.inl rfl) _).set (.inl rfl) _).set (.inl rfl) _).set (.inl rfl) _).drew
       case measure => (simp [intOf] <;> omega)
      ·rw [decide_eq_false hrn]
       have hxa:=Lib.hid (fun h => hrn (HNG.out.2 h));clear hrn;(go_wp2_with fail)
       go_roundw
       case rel =>
        refine ⟨k + 1,A' ++ a :: x :: B,R,by go_num,by omega,fun _ => (by have:=hAB.out.2;simp at this ⊢;omega),fun h => (by omega),Lib.hid ?_,Lib.hid ?_,?_,hG⟩
        ·have:=hP.out
         simpa using this
        ·have:=Pf.Srt.snoc (x:=x) hS.out.1 hS.out.2 (fun a' h => (by
          rw [List.getLast?_append] at h
          obtain rfl : a = a':=by simpa using h
          exact Rat.not_lt.1 hxa.out))
         simpa using this
        ·rw [show (A' ++ a :: x :: B) ++ R = A' ++ a :: x :: (B ++ R) by simp,HC4.out]
         exact hB
       case measure => (simp [intOf] <;> omega)
  ·have i1 : ¬ (k : Int) < (n : Int):=by omega
   have hC : C = []:=by
    have h1:=hP.out.length_eq;have h3:=HN.out;rw [List.length_append] at h1
    by_cases h : k ≤ n
    ·have:=hkn h
     exact List.eq_nil_of_length_eq_zero (by omega)
    ·have:=hk0 (by omega)
     exact List.eq_nil_of_length_eq_zero (by omega)
   subst hC;rw [List.append_nil] at hP hB;(go_wp2_with fail)
   go_end0
   exact ⟨rfl,S,hP.out,hS.out,hB,hG⟩
theorem pfpdq_any (p n cap : Nat) (lim : Int) (L : List (Rat × Rat)) (w : World) (hn : L.length = n) (h12 : n ≤ 12) (hf : ∀ s ∈ L,Pc.Fit s.1) (hB : BK w p (Pc.cells4 L)) :
 Calls Tryz.prog 222 #[.slice (some ⟨p,0,none⟩) n cap,.int .i64 0,.int .i64 (n : Nat),.int .i64 lim,.func (.func 197) #[] #[]] w fun e w' => e = .returned (.tuple #[])∧SrtQ p L w w':=by
 have ii:=pfins_any p n cap L w hn h12 hf hB;have t1 : IntKind.i64.wrap (n : Int) = (n : Int):=IntWalk.i64_in _ (by omega)
 have t2 : (n : Int) ≤ 12:=by omega
 have II:=Lib.hid ii;clear ii hn hf hB
 go_enter Tryz.func222,Tryz.ntmps222
 (go_wp2_with fail);refine wp_loop_rounds 1 ?_;rw [rounds_succ];(go_wp2_with fail);refine II.out.mono ?_;rintro e w1 ⟨rfl,hq⟩;(go_wp2_with fail)
 (try simp only [Exit.inBlock,Exit.then]);refine bodyPost_ret (results_none rfl _ _ _) rfl ?_
 exact ⟨rfl,hq⟩
theorem pfsort_any (p n cap : Nat) (L : List (Rat × Rat)) (w : World) (hn : L.length = n) (h12 : n ≤ 12) (hf : ∀ s ∈ L,Pc.Fit s.1) (hB : BK w p (Pc.cells4 L)) :
 Calls Tryz.prog 196 #[.slice (some ⟨p,0,none⟩) n cap,.func (.func 197) #[] #[]] w fun e w' => e = .returned (.tuple #[])∧SrtQ p L w w':=by
 have ii:=fun lim => pfpdq_any p n cap lim L w hn h12 hf hB
 have ll:=len64_any (n : Int) (by omega) (by omega) w
 have t1 : IntKind.u64.wrap (n : Int) = (n : Int):=by simp [IntKind.wrap,IntKind.bits,IntKind.signed];omega
 generalize (Lib.bitLen (n : Int).toNat : Int) = b at ll
 have II:=Lib.hid ii;have LL:=Lib.hid ll
 have hL : Calls Tryz.prog 43 #[.int .u64 (n : Int)] w fun e w' => e = .returned (.int .i64 b)∧w = w':=by
  clear ii ll hn hf hB
  go_enter Tryz.func43,Tryz.ntmps43
  (go_wp2_with fail);refine LL.out.mono ?_;rintro e w1 ⟨rfl,rfl⟩;(go_wp2_with fail)
  go_ret
  exact ⟨rfl,rfl⟩
 have HL:=Lib.hid hL;clear ii ll hL hn hf hB LL
 go_enter Tryz.func196,Tryz.ntmps196
 (go_wp2_with fail);refine HL.out.mono ?_;rintro e w1 ⟨rfl,rfl⟩;(go_wp2_with fail);refine (II.out _).mono ?_;rintro e w1 ⟨rfl,hq⟩;(go_wp2_with fail)
 go_end0
 exact ⟨rfl,hq⟩
end Go.Proofs.YtogmfebphiglaaaGreat
namespace Go.Proofs.YtogmfebphiglaaaGreat
open Go.RowKit
namespace Pf
/-- Whether spans, in this order, leave something between a point and the end. -/
def lsB (l : Rat) : List (Rat × Rat) → Rat → Bool
 | [],r => !decide (r = l)
 | s :: T,r => if s.1 = r then lsB l T s.2 else true
theorem lsB_nil (l r : Rat) : lsB l [] r = !decide (r = l):=rfl
theorem rat_eq {r s : Rat} (h : r.num = s.num) (k : (r.den : Int) = (s.den : Int)) : r = s:=Rat.ext h (by exact_mod_cast k)
end Pf
theorem pfleaves_any (A Pp Ww Rr : Option Addr) (n ca np cp nW cw nR cr : Nat) (cs : List CkR) (ps : List Pf.PcR) (w : World) (h : IsCs w A cs) (hp : IsPs w Pp ps) (hcl : cs.length = n) (hpl : ps.length = np) (hc : 1 ≤ n) (hn : np ≤ 6) (hl : ∀ k,k < ps.length → (Pf.pat ps k).L.length ≤ 60) (h1 : 1 ≤ (Pf.cat4 ps).length) (h12 : (Pf.cat4 ps).length ≤ 12) (hf : ∀ s ∈ Pf.cat4 ps,Pc.Fit s.1) :
 Calls Tryz.prog 151 #[.agg #[.slice A n ca,.slice Pp np cp,.slice Ww nW cw,.slice Rr nR cr]] w fun e w' => ∃ lv,e = .returned (.bool lv)∧Below w.heap.size w w'∧∃ M : List (Rat × Rat),M.Perm (Pf.cat4 ps)∧Pf.Srt M∧lv = Pf.lsB ((Ak.cat cs 0).len : Rat) M 0:=by
 obtain ⟨ab,ao,hA,hcc⟩:=h.cell (by omega);have x0:=(hcc 0 (by omega)).1;rw [Nat.zero_mul,Nat.add_zero] at x0;have hab:=lt_of_cell x0;subst hA
 have cc:=fun v (hv : Below w.heap.size w v) => pfconcat_any Pp cp ps v (hp.keep hv) (by omega) hl
 rw [hpl] at cc;obtain ⟨len,hlen⟩ : ∃ z,(Ak.cat cs 0).len = z:=⟨_,rfl⟩;rw [hlen] at x0 ⊢;obtain ⟨L,hL⟩ : ∃ z,Pf.cat4 ps = z:=⟨_,rfl⟩;rw [hL] at cc h1 h12 hf ⊢;obtain ⟨N,hN⟩ : ∃ z,L.length = z:=⟨_,rfl⟩;rw [hN] at cc h1 h12;have CC:=Lib.hid cc;have HN:=Lib.hid hN;have HF:=Lib.hid hf
 have hc0 : (0 : Int) < (n : Int):=by omega
 clear cc h hp hcl hpl hl hcc hlen hL hN hf
 go_enter Tryz.func151,Tryz.ntmps151
 go_upto_region 1 with fail
 refine at_box1 (fun V hbb B0 hVs => ?_);have p0:=B0.c 0 rfl;have p1:=B0.c 1 rfl;replace x0:=keepC hbb x0;(go_wp2_with fail);refine (CC.out _ hbb).mono ?_;rintro e w1 ⟨v,rfl,hb1,hrow⟩;obtain ⟨g,cap,rfl,hg,hgl⟩:=World.ownsRow.form hrow (by omega)
 have hBR : BK w1 g (Pc.cells4 L):=⟨hgl,fun j u hj => ⟨by
  have hj4 : j < N * 4:=by
   have:=(List.getElem?_eq_some_iff.1 hj).1;rw [Pc.cells4_len,HN.out] at this;exact this
  rw [World.ownsRow.cellAt hrow j hj4];exact hj,World.ownsRow.frozenAt hrow j⟩⟩
 have hwg : w.heap.size < g:=by omega
 replace hbb:=keepB hbb hb1;replace B0:=B0.keep hb1;replace x0:=keepC hb1 x0;clear hrow hb1 hVs p0 p1 hg hgl
 have hfs : ∀ s ∈ L,Pc.Fit s.1:=HF.out
 have st:=pfsort_any g N cap L w1 HN.out h12 hfs hBR;have ST:=Lib.hid st;clear st hBR hfs;(go_wp2_with fail);refine ST.out.mono ?_;rintro e w2 ⟨rfl,M,hM1,hM2,hBM,hG⟩;have HM1:=Lib.hid hM1;have HM2:=Lib.hid hM2;have hML:=hM1.length_eq;rw [HN.out] at hML;have HML:=Lib.hid hML;replace B0:=B0.gb hG (by omega);replace x0:=hG.cell (show ¬ ab = g by omega) x0;replace hbb:=hG.toBelow hbb (fun k e => by omega) (by have:=hbb.size;omega);clear hM1 hM2 hML hG CC ST
 have wh:=fun v => pfwhole_any 0 v
 have WH0:=Lib.hid wh;clear wh;(go_wp2_with fail);refine (WH0.out _).mono ?_;rintro e w3 ⟨rfl,hb3⟩;replace B0:=B0.keep hb3;replace hBM:=hBM.keep hb3;replace x0:=keepC hb3 x0;replace hbb:=keepB hbb hb3;clear hb3 WH0;have hwg3:=hBM.lt
 go_upto_region 4 with fail
 refine at_worldQ (fun v => Below w.heap.size w v∧BK v w.heap.size [.slice (some ⟨ab,ao,none⟩) n ca,.slice Pp np cp,.slice Ww nW cw,.slice Rr nR cr]∧BK v g (Pc.cells4 M)∧BK v w3.heap.size [.int .i64 0,.int .i64 1]∧v.cell? ⟨ab,ao,none⟩ = some (.int .i64 len)) ⟨below_al hbb _,B0.al _,hBM.al _,BK.new _ _ _,cell_alloc x0 _⟩ (fun V4 hS => ?_);have hbs:=hbb.size;clear hbb B0 hBM x0;obtain ⟨hbb,B0,hBM,BQ,x0⟩:=hS
 generalize w3.heap.size = q at *
 have hls : Hid (Pf.lsB (len : Rat) M 0 = Pf.lsB (len : Rat) (M.drop 0) 0):=by show _ = _;rw [List.drop_zero]
 go_wp2_with fail
 go_loopw [15] (fun i v => ∃ (k : Nat) (r : Rat),i = .int .i64 (k : Nat)∧k ≤ N∧Below w.heap.size w v∧BK v w.heap.size [.slice (some ⟨ab,ao,none⟩) n ca,.slice Pp np cp,.slice Ww nW cw,.slice Rr nR cr]∧BK v g (Pc.cells4 M)∧BK v q [.int .i64 r.num,.int .i64 (r.den : Int)]∧v.cell? ⟨ab,ao,none⟩ = some (.int .i64 len)∧Hid (Pf.lsB (len : Rat) M 0 = Pf.lsB (len : Rat) (M.drop k) r)) (fun i _ => N - (intOf i).toNat)
 case atStart => exact ⟨0,0,rfl,Nat.zero_le _,hbb,B0,hBM,BQ,x0,hls⟩
 case round =>
  clear hbb B0 hBM BQ x0 hls;obtain ⟨k,r,rfl,hk,hbb,B0,hBM,BQ,x0,HLS⟩:=hrel
  by_cases hlt : k < N
  ·have i1 : (k : Int) < (N : Int):=by omega
   have i2 : (0 : Int) ≤ (k : Int):=by omega
   have hkM : k < M.length:=by rw [HML.out];exact hlt
   obtain ⟨s,hs⟩ : ∃ z,Pc.sat M k = z:=⟨_,rfl⟩
   have hdr : M.drop k = s :: M.drop (k + 1):=by
    rw [← hs,Pc.sat_lt hkM];exact List.drop_eq_getElem_cons hkM
   have e1:=Pc.cells2_at (l:=Pc.ends M) (k:=k * 2) (by rw [Pc.ends_len];omega);have e2:=Pc.cells2_at (l:=Pc.ends M) (k:=k * 2 + 1) (by rw [Pc.ends_len];omega);rw [(Pc.ends_at hkM).1,hs,show k * 2 * 2 = k * 4 by omega] at e1;rw [(Pc.ends_at hkM).2,hs,show (k * 2 + 1) * 2 = k * 4 + 2 by omega,show k * 4 + 2 + 1 = k * 4 + 3 by omega] at e2;have c0:=hBM.c (k * 4) e1.1;have c1:=hBM.c (k * 4 + 1) e1.2;have c2:=hBM.c (k * 4 + 2) e2.1;have c3:=hBM.c (k * 4 + 3) e2.2;have HDR:=Lib.hid hdr;clear hs hdr e1 e2 hkM
   go_upto_region 7 with fail
   refine at_worldQ (fun v => Below w.heap.size w v∧BK v w.heap.size [.slice (some ⟨ab,ao,none⟩) n ca,.slice Pp np cp,.slice Ww nW cw,.slice Rr nR cr]∧BK v g (Pc.cells4 M)∧BK v q [.int .i64 r.num,.int .i64 (r.den : Int)]∧BK v wr.heap.size [.int .i64 s.1.num,.int .i64 (s.1.den : Int),.int .i64 s.2.num,.int .i64 (s.2.den : Int)]∧v.cell? ⟨ab,ao,none⟩ = some (.int .i64 len)) ⟨below_al hbb _,B0.al _,hBM.al _,BQ.al _,BK.new _ _ _,cell_alloc x0 _⟩ (fun V5 hS => ?_);have hqr:=BQ.lt;have hbs5:=hbb.size;clear hbb B0 hBM BQ x0 c0 c1 c2 c3;obtain ⟨hbb,B0,hBM,BQ,BX,x0⟩:=hS
   generalize wr.heap.size = px at *
   have m0:=BX.c 0 rfl;have m1:=BX.c 1 rfl;have m2:=BX.c 2 rfl;have m3:=BX.c 3 rfl;have r0:=BQ.c 0 rfl;have r1:=BQ.c 1 rfl;have rf0:=BQ.f 0 rfl;have rf1:=BQ.f 1 rfl
   by_cases heq : s.1 = r
   ·have HLS2:=Lib.hid (show Pf.lsB (len : Rat) M 0 = Pf.lsB (len : Rat) (M.drop (k + 1)) s.2 by rw [HLS.out,HDR.out];show (if s.1 = r then _ else _) = _;rw [if_pos heq])
    subst heq;(go_wp2_with fail)
    go_roundw
    case rel => exact ⟨k + 1,s.2,by go_num,by omega,below_set (below_set hbb (by omega) _) (by omega) _,(B0.far (by omega) _ _).far (by omega) _ _,(hBM.far (by omega) _ _).far (by omega) _ _,(BQ.set 0 _).set 1 _,cell_far (cell_far x0 (by omega) _) (by omega) _,HLS2⟩
    case measure => (simp [intOf] <;> omega)
   ·have HLS2:=Lib.hid (show true = Pf.lsB (len : Rat) M 0 by rw [HLS.out,HDR.out];show _ = (if s.1 = r then _ else _);rw [if_neg heq])
    have hne : s.1.num = r.num → ¬ (s.1.den : Int) = (r.den : Int):=fun h1 h2 => heq (Pf.rat_eq h1 h2)
    clear heq
    generalize s.1.num = X0 at *
    generalize (s.1.den : Int) = X1 at *
    generalize s.2.num = X2 at *
    generalize (s.2.den : Int) = X3 at *
    go_wp2_with fail
    all_goals (go_ret;exact ⟨_,rfl,hbb,M,HM1.out,HM2.out,HLS2.out⟩)
  ·obtain rfl : k = N:=by omega
   have i1 : ¬ (k : Int) < (k : Int):=by omega
   rw [List.drop_of_length_le (by rw [HML.out];exact Nat.le_refl _)] at HLS
   have wh:=fun v => pfwhole_any len v
   have WH:=Lib.hid wh;clear wh
   go_upto_region 11 with fail
   refine at_worldQ (fun v => Below w.heap.size w v∧BK v w.heap.size [.slice (some ⟨ab,ao,none⟩) n ca,.slice Pp np cp,.slice Ww nW cw,.slice Rr nR cr]∧BK v q [.int .i64 r.num,.int .i64 (r.den : Int)]∧v.cell? ⟨ab,ao,none⟩ = some (.int .i64 len)) ⟨hbb,B0,BQ,x0⟩ (fun V hS => ?_);clear hbb B0 hBM BQ x0;obtain ⟨hbb,B0,BQ,x0⟩:=hS;have p0:=B0.c 0 rfl;have r0:=BQ.c 0 rfl;have r1:=BQ.c 1 rfl
   have hc1 : 0 < n:=by omega
   by_cases heq : r = (len : Rat)
   ·subst heq
    rw [show ((len : Rat)).num = len from Rat.num_intCast _] at r0;rw [show (((len : Rat)).den : Int) = 1 by rw [Rat.den_intCast];rfl] at r1;refine wp_region_noPanic ?_;refine wp_region_held_drew (S:=(Below V.heap.size V)) (by kernel_rfl) ((Below.refl _ _).drew) (fun hHeld => ?_);refine at_anyH (Below V.heap.size V) hHeld (fun we0 hNew => ?_);clear hHeld;have hHeld:=hNew;clear hNew;refine tkm 0 rfl hHeld (fun w hSw => by have kp0:=keepC hSw p0;have kx0:=keepC hSw x0;have kr0:=keepC hSw r0;have kr1:=keepC hSw r1;go_simp <;> with_reducible rfl) ?_;(try simp only [PPz]);refine tkd 1 ?_;(try simp only [PPz]);refine tkm 2 rfl hHeld (fun w hSw => by have kp0:=keepC hSw p0;have kx0:=keepC hSw x0;have kr0:=keepC hSw r0;have kr1:=keepC hSw r1;go_simp <;> with_reducible rfl) ?_;(try simp only [PPz]);refine tkd 3 ?_;refine tkd 4 ?_;(try simp only [PPz]);refine tkm 5 rfl hHeld (fun w hSw => by have kp0:=keepC hSw p0;have kx0:=keepC hSw x0;have kr0:=keepC hSw r0;have kr1:=keepC hSw r1;go_simp <;> with_reducible rfl) ?_;(try simp only [PPz]);refine rdy1 6 rfl (fun K hK => ?_);go_simp;refine (WH.out _).mono ?_;rintro e we7 ⟨rfl,hb3⟩;(go_wp2_with fail);refine hK.out _ _ (keepB hHeld hb3) (fun hNew => ?_);replace hHeld:=hNew;clear hNew hK K hb3;(try simp only [PPz]);refine tkn 7 (.bool false) rfl ?_ hHeld ?_
    ·go_simp
    (try simp only [PPz]);refine tkd 8 ?_;(try simp only [PPz]);refine wpAnyH_done (by kernel_rfl) ?_ _;refine NoPanic.normal ?_;replace hbb:=keepB hbb hHeld;clear hHeld;(go_wp2_with fail)
    go_ret
    exact ⟨_,rfl,hbb,M,HM1.out,HM2.out,(by rw [HLS.out,Pf.lsB_nil];simp)⟩
   ·have HE:=Lib.hid heq
    have HNE:=Lib.hid (show r.num = len → ¬ (r.den : Int) = 1 from fun h1 h2 => heq (Pf.rat_eq (by rw [h1,Rat.num_intCast]) (by rw [h2,Rat.den_intCast];rfl)));clear heq
    generalize r.num = R0 at *
    generalize (r.den : Int) = R1 at *
    refine wp_region_noPanic ?_;refine wp_region_held_drew (S:=(Below V.heap.size V)) (by kernel_rfl) ((Below.refl _ _).drew) (fun hHeld => ?_);refine at_anyH (Below V.heap.size V) hHeld (fun wf0 hNew => ?_);clear hHeld;have hHeld:=hNew;clear hNew;refine tkm 0 rfl hHeld (fun w hSw => by have kp0:=keepC hSw p0;have kx0:=keepC hSw x0;have kr0:=keepC hSw r0;have kr1:=keepC hSw r1;go_simp <;> with_reducible rfl) ?_;(try simp only [PPz]);refine tkd 1 ?_;(try simp only [PPz]);refine tkm 2 rfl hHeld (fun w hSw => by have kp0:=keepC hSw p0;have kx0:=keepC hSw x0;have kr0:=keepC hSw r0;have kr1:=keepC hSw r1;go_simp <;> with_reducible rfl) ?_;(try simp only [PPz]);refine tkd 3 ?_;refine tkd 4 ?_;(try simp only [PPz]);refine tkm 5 rfl hHeld (fun w hSw => by have kp0:=keepC hSw p0;have kx0:=keepC hSw x0;have kr0:=keepC hSw r0;have kr1:=keepC hSw r1;go_simp <;> with_reducible rfl) ?_;(try simp only [PPz]);refine rdy1 6 rfl (fun K hK => ?_);go_simp;refine (WH.out _).mono ?_;rintro e wf7 ⟨rfl,hb3⟩;(go_wp2_with fail);refine hK.out _ _ (keepB hHeld hb3) (fun hNew => ?_);replace hHeld:=hNew;clear hNew hK K hb3;(try simp only [PPz]);refine tkn 7 (.bool true) rfl ?_ hHeld ?_
    ·go_simp;exact fun _ _ => HNE.out
    (try simp only [PPz]);refine tkd 8 ?_;(try simp only [PPz]);refine wpAnyH_done (by kernel_rfl) ?_ _;refine NoPanic.normal ?_;replace hbb:=keepB hbb hHeld;clear hHeld;(go_wp2_with fail)
    go_ret
    exact ⟨_,rfl,hbb,M,HM1.out,HM2.out,(by rw [HLS.out,Pf.lsB_nil,decide_eq_false HE.out];rfl)⟩
end Go.Proofs.YtogmfebphiglaaaGreat
namespace Go.Proofs.YtogmfebphiglaaaGreat
open Go.RowKit
/-- What leavesSome finds. -/
def LvP (cs : List CkR) (ps : List Pf.PcR) (lv : Bool) : Prop:=∃ M : List (Rat × Rat),M.Perm (Pf.cat4 ps)∧Pf.Srt M∧lv = Pf.lsB ((Ak.cat cs 0).len : Rat) M 0
theorem pfleaves_of {A Pp : Option Addr} {ca cp : Nat} {cs : List CkR} {ps : List Pf.PcR} {v : World} (h : IsCs v A cs) (hp : IsPs v Pp ps) (g0 : DvG (cs.map Ak.dat) ps) (h1 : 1 ≤ (Pf.cat4 ps).length) (h12 : (Pf.cat4 ps).length ≤ 12) (Ww Rr : Option Addr) (nW cw nR cr : Nat) :
 Calls Tryz.prog 151 #[.agg #[.slice A cs.length ca,.slice Pp ps.length cp,.slice Ww nW cw,.slice Rr nR cr]] v fun e w' => ∃ lv,e = .returned (.bool lv)∧Below v.heap.size v w'∧LvP cs ps lv:=by
 have hgd:=Ak.chkS_good g0.ck;have l0:=hgd.l0;have l1:=hgd.l1;have hpl:=g0.pl;rw [List.length_map] at l0 l1 hpl;refine (pfleaves_any A Pp Ww Rr cs.length ca ps.length cp nW cw nR cr cs ps v h hp rfl rfl (by omega) (by omega) (fun k hk => (g0.go k hk).len) h1 h12 (fun s hs => ?_)).mono ?_
 ·unfold Pf.cat4 at hs
  obtain ⟨p,hp',hs⟩:=List.mem_flatMap.1 hs;obtain ⟨k,hk,rfl⟩:=List.mem_iff_getElem.1 hp'
  have e : (Pf.pat ps k).L = ps[k].L:=by unfold Pf.pat;simp [hk]
  have hg:=g0.go k hk;rw [e] at hg;obtain ⟨j,hj,rfl⟩:=List.mem_iff_getElem.1 hs;have:=hg.fit _ (Pc.mem_ends1 hj).1
  rwa [Pc.sat_lt hj] at this
 ·rintro e u ⟨lv,rfl,hb,hM⟩
  exact ⟨lv,rfl,hb,hM⟩
/-- What Make hands back. -/
def MkQ (cs : List CkR) (ps : List Pf.PcR) (n : Nat) (w : World) (e : Ending) (w' : World) : Prop:=Below w.heap.size w w'∧∃ (F : Nat → Bool) (g : Nat) (ws : List Pf.RwR) (rs : List (Int × Int)),e = .returned (.tuple #[.agg #[.int .u8 (Pf.hs (fun _ => true) F 5),.slice (some ⟨g,0,none⟩) n n],.int .i64 0]) ∧
 WsB w' w.heap.size w'.heap.size (some ⟨g,0,none⟩) ws∧ws.map Pf.RwR.l = ((List.range cs.length).map fun k => (List.range cs.length).map (Pf.wp (cs.map Ak.dat) ps k))∧∀ j,j < 5 → CeP cs ps ws rs (LvP cs ps) j (F j)
theorem rows_of {cs : List CkR} {ps : List Pf.PcR} {ws : List Pf.RwR} (hl : ws.length = cs.length) (hr : ∀ k,k < cs.length → (Pf.rat ws k).l = (List.range cs.length).map (Pf.wp (cs.map Ak.dat) ps k)) : ws.map Pf.RwR.l = ((List.range cs.length).map fun k => (List.range cs.length).map (Pf.wp (cs.map Ak.dat) ps k)):=by
 refine List.ext_getElem (by simp [hl]) (fun k h1 h2 => ?_)
 have hk : k < cs.length:=by simpa using h2
 have:=hr k hk
 unfold Pf.rat at this
 simpa [hl,hk] using this
theorem pfmake_any (A Pp : Option Addr) (ca cp : Nat) (cs : List CkR) (ps : List Pf.PcR) (w : World) (h : IsCs w A cs) (hp : IsPs w Pp ps) (g0 : DvG (cs.map Ak.dat) ps) (h1 : 1 ≤ (Pf.cat4 ps).length) (h12 : (Pf.cat4 ps).length ≤ 12)
 (hz : ∀ a b,a < cs.length → b < cs.length → (Pf.wv (cs.map Ak.dat) ps a b).2.2 = 0) (hd : ∀ ws : List Pf.RwR,ws.map Pf.RwR.l = ((List.range cs.length).map fun k => (List.range cs.length).map (Pf.wp (cs.map Ak.dat) ps k)) → ∀ a,a < cs.length → (Pf.dv (cs.map Ak.dat) ws a).2.2 = 0) :
 Calls Tryz.prog 27 #[.slice A cs.length ca,.agg #[.slice Pp ps.length cp]] w (MkQ cs ps cs.length w):=by
 have hpl:=g0.pl;rw [List.length_map] at hpl
 have sv:=fun v (hv : Below w.heap.size w v) => pfsurvey_any true A Pp ca cp cs ps v (h.keep hv) (hp.keep hv) g0
 rw [hpl] at sv
 have ho:=fun (g : Nat) (ws : List Pf.RwR) (rA : Option Addr) (rc : Nat) (rs : List (Int × Int)) v (hv : Below w.heap.size w v) (hws : IsWs v (some ⟨g,0,none⟩) ws) (hrs : IsRw v rA rs) (hl : ws.length = cs.length) (hrl : rs.length = cs.length) (hr : ∀ k,k < cs.length → (Pf.rat ws k).l = (List.range cs.length).map (Pf.wp (cs.map Ak.dat) ps k)) =>
  (by
   have hsv : SvI v A Pp (some ⟨g,0,none⟩) rA cs ps ws rs:=⟨h.keep hv,hp.keep hv,hws,hrs⟩;have hsg:=svG_of (rs:=rs) g0 hz hl hr
   have q:=pfholding_any A Pp (some ⟨g,0,none⟩) rA cs.length ca ps.length cp ws.length cs.length rs.length rc 31 (fun _ => true) (CeP cs ps ws rs (LvP cs ps)) v (fun k hk => (by
    have : k = 0 ∨ k = 1 ∨ k = 2 ∨ k = 3 ∨ k = 4:=by omega
    rcases this with rfl | rfl | rfl | rfl | rfl <;> decide)) (fun k hk _ u hu => pfces_any A Pp (some ⟨g,0,none⟩) rA ca cp cs.length rc cs ps ws rs (LvP cs ps) v hsv hsg (fun _ x hx => pfleaves_of (h.keep (keepB hv hx)) (hp.keep (keepB hv hx)) g0 h1 h12 _ _ _ _ _ _) k hk (fun _ => hrl) u hu)
   rw [hpl,hl,hrl] at q
   exact q)
 obtain ⟨n,hn⟩ : ∃ z,cs.length = z:=⟨_,rfl⟩;have HZ:=Lib.hid hz;have HD:=Lib.hid hd;have HN:=Lib.hid hn;rw [hpl];rw [hn] at sv ho ⊢;have SV:=Lib.hid sv;have HO:=Lib.hid ho;clear sv ho hz hd hn hpl g0 h1 h12 h hp
 unfold MkQ
 go_enter Tryz.func27,Tryz.ntmps27
 go_upto_region 1 with fail
 refine at_box2 (fun V hbb B0 B1 hVs => ?_);have p0:=B0.c 0 rfl
 unfold NsQ at SV
 (go_wp2_with fail);refine (SV.out _ hbb).mono ?_;rintro e w1 ⟨hb,⟨a,b,s,ha,hb1,hne,rfl⟩ | ⟨hz,g,ws,hws,hl,hr,⟨hf,-⟩ | ⟨-,⟨a,s,ha,hne,rfl⟩ | ⟨hdz,rA,rc,rfl,hrs⟩⟩⟩⟩
 ·exact absurd (HZ.out a b (by rw [HN.out];exact ha) (by rw [HN.out];exact hb1)) hne
 ·cases hf
 ·exact absurd (HD.out ws (rows_of (by rw [HN.out];exact hl) (fun k hk => by rw [HN.out] at hk ⊢;exact hr k hk)) a (by rw [HN.out];exact ha)) hne
 ·have hrow:=rows_of (cs:=cs) (ps:=ps) (by rw [HN.out];exact hl) (fun k hk => by rw [HN.out] at hk ⊢;exact hr k hk)
  have HRW:=Lib.hid hrow;have HL:=Lib.hid hl;have HR:=Lib.hid hr;have hsV:=hbb.size;have hws2:=hws.mono (show w.heap.size + 2 ≤ V.heap.size by omega) (Nat.le_refl _);have hrs2:=hrs.mono (show w.heap.size + 2 ≤ V.heap.size by omega) (Nat.le_refl _);have hVw1:=hb.size;replace hbb:=keepB hbb hb;replace B1:=B1.keep hb;clear p0 B0 hws hrs hb hl hr hz hdz hrow SV HZ HD;obtain ⟨rs,hrs0⟩ : ∃ z,(List.range n).map (Pf.dp (cs.map Ak.dat) ws) = z:=⟨_,rfl⟩;have HRL:=Lib.hid (show rs.length = n by rw [← hrs0];simp);rw [hrs0] at hrs2;clear hrs0
  go_upto_region 4 with fail
  refine at_worldQ (fun v => Below w.heap.size w v∧BK v (w.heap.size + 1) [.int .u8 0,.slice none 0 0]∧BK v w1.heap.size [.slice A n ca,.slice Pp n cp,.slice (some ⟨g,0,none⟩) n n,.slice rA n rc]∧WsB v (w.heap.size + 2) w1.heap.size (some ⟨g,0,none⟩) ws∧RsB v (w.heap.size + 2) w1.heap.size rA rs) ⟨below_al hbb _,B1.al _,BK.new _ _ _,hws2.keep (below_al (Below.refl _ _) _),hrs2.keep (below_al (Below.refl _ _) _)⟩ (fun V4 hS => ?_);clear hbb B1 hws2 hrs2;obtain ⟨hbb,BT,B6,hws,hrs⟩:=hS;obtain ⟨p6,hp6⟩ : ∃ z,w1.heap.size = z:=⟨_,rfl⟩;rw [hp6] at B6 hws hrs hVw1 ⊢;have q0:=B6.c 0 rfl;have q1:=B6.c 1 rfl;have q2:=B6.c 2 rfl;have q3:=B6.c 3 rfl;have hp64:=B6.lt;have hBV:=hbb.size
  have hoo:=fun W (hG : GB (fun k => k = w.heap.size + 1) V4 W) => HO.out g ws rA rc rs W (hG.toBelow hbb (fun k hk => by omega) hBV) (hws.gb hG (fun k hk => .inl (by omega))).isWs (hrs.gb hG (fun k hk => .inl (by omega))).isRw HL.out HRL.out HR.out
  have HOO:=Lib.hid hoo;clear hoo HO hp6;refine wp_region_noPanic ?_;refine wp_region_held_drew (S:=(GB (fun k => k = w.heap.size + 1) V4)) (by kernel_rfl) ((GB.refl _ _).drew) (fun hHeld => ?_);refine at_anyH (fun v => GB (fun k => k = w.heap.size + 1) V4 v∧BK v (w.heap.size + 1) [.int .u8 0,.slice none 0 0]) ⟨hHeld,BT.drew⟩ (fun wm0 hNew => ?_);clear hHeld BT;obtain ⟨hHeld,BT⟩:=hNew;refine tkm 0 rfl hHeld (fun w hSw => by have kq0:=hSw.cell (by omega) q0;have kq1:=hSw.cell (by omega) q1;have kq2:=hSw.cell (by omega) q2;have kq3:=hSw.cell (by omega) q3;go_simp <;> with_reducible rfl) ?_;(try simp only [PPz]);refine tkd 2 ?_;(try simp only [PPz]);refine tkm 3 rfl hHeld (fun w hSw => by have kq0:=hSw.cell (by omega) q0;have kq1:=hSw.cell (by omega) q1;have kq2:=hSw.cell (by omega) q2;have kq3:=hSw.cell (by omega) q3;go_simp <;> with_reducible rfl) ?_;(try simp only [PPz]);refine rdy1 1 rfl (fun K hK => ?_);go_simp;refine (HOO.out _ hHeld).mono ?_;rintro e wm4 ⟨F,rfl,hb3,hF⟩;have HFF:=Lib.hid hF;clear hF;(go_wp2_with fail);refine hK.out _ _ (hHeld.below hb3) (fun hNew => ?_);replace BT:=BT.keep hb3;replace hHeld:=hNew;clear hNew hK K hb3;(try simp only [PPz]);refine tkd 4 ?_;(try simp only [PPz]);refine rdy1 5 rfl (fun K hK => ?_);have n0:=BT.c 0 rfl;have f0:=BT.f 0 rfl;have n1:=BT.c 1 rfl;have f1:=BT.f 1 rfl;go_simp;clear n0 f0 n1 f1;refine hK.out _ _ ((hHeld.set (.inl rfl) _).set (.inl rfl) _) (fun hNew => ?_);replace hHeld:=hNew;clear hNew hK K;(try simp only [PPz]);refine at_anyH (fun v => GB (fun k => k = w.heap.size + 1) V4 v∧BK v (w.heap.size + 1) [.int .u8 (Pf.hs (fun _ => true) F 5),.slice (some ⟨g,0,none⟩) n n]) ⟨hHeld,((BT.set 0 _).set 1 _)⟩ (fun wm6 hS => ?_);clear hHeld BT;obtain ⟨hHeld,BT⟩:=hS;refine tkd 6 ?_;(try simp only [PPz]);refine wpAnyH_done (by kernel_rfl) ?_ _;refine NoPanic.normal ?_;have r0:=BT.c 0 rfl;have r1:=BT.c 1 rfl;(go_wp2_with fail);exact bodyPost_ret (v:=.tuple #[.agg #[.int .u8 (Pf.hs (fun _ => true) F 5),.slice (some ⟨g,0,none⟩) n n],.int .i64 0]) (by simp [results,Tryz.results27,go_sem,r0,r1]) rfl ⟨hHeld.toBelow hbb (fun k hk => by omega) hBV,F,g,ws,_,rfl,(hws.gb hHeld (fun k hk => .inl (by omega))).mono (by omega) (by have:=hHeld.size;omega),HRW.out,fun j hj => HFF.out j hj (by first | trivial | rfl)⟩
/-- What Accept hands back. -/
def AcQ (z : Int) (bt : Nat → Bool) (cs : List CkR) (ps : List Pf.PcR) (w : World) (e : Ending) (w' : World) : Prop:=Below w.heap.size w w'∧∃ (F : Nat → Bool) (ws : List Pf.RwR),e = .returned (.tuple #[.bool (Pf.hs bt F 5 == z),.int .i64 0]) ∧
 ws.map Pf.RwR.l = ((List.range cs.length).map fun k => (List.range cs.length).map (Pf.wp (cs.map Ak.dat) ps k))∧∀ j,j < 5 → bt j = true → CeP cs ps ws [] (LvP cs ps) j (F j)
theorem pfaccept_any (z : Int) (bt : Nat → Bool) (hzb : ∀ k,k < 5 → (bits BinOp.and IntKind.u8 z (Pf.pw k) == 0) = !bt k) (h3 : bt 3 = false) (hz31 : z ≤ 31) (A Pp Wv : Option Addr) (ca cp cv : Nat) (cs : List CkR) (ps : List Pf.PcR) (vs : List Pf.RwR) (w : World) (h : IsCs w A cs) (hp : IsPs w Pp ps) (hv : IsWs w Wv vs) (hvl : vs.map Pf.RwR.l = ((List.range cs.length).map fun k => (List.range cs.length).map (Pf.wp (cs.map Ak.dat) ps k))) (g0 : DvG (cs.map Ak.dat) ps) (h1 : 1 ≤ (Pf.cat4 ps).length) (h12 : (Pf.cat4 ps).length ≤ 12)
 (hz : ∀ a b,a < cs.length → b < cs.length → (Pf.wv (cs.map Ak.dat) ps a b).2.2 = 0) :
 Calls Tryz.prog 28 #[.slice A cs.length ca,.agg #[.slice Pp ps.length cp],.agg #[.int .u8 z,.slice Wv vs.length cv]] w (AcQ z bt cs ps w):=by
 have hpl:=g0.pl;have hgd:=Ak.chkS_good g0.ck;have l1:=hgd.l1;rw [List.length_map] at hpl l1
 have hvn : vs.length = cs.length:=by have:=congrArg List.length hvl;simpa using this
 have sv:=fun v (hv : Below w.heap.size w v) => pfsurvey_any false A Pp ca cp cs ps v (h.keep hv) (hp.keep hv) g0
 rw [hpl] at sv
 have ho:=fun (g : Nat) (ws : List Pf.RwR) v (hv : Below w.heap.size w v) (hws : IsWs v (some ⟨g,0,none⟩) ws) (hl : ws.length = cs.length) (hr : ∀ k,k < cs.length → (Pf.rat ws k).l = (List.range cs.length).map (Pf.wp (cs.map Ak.dat) ps k)) =>
  (by
   have hsv : SvI v A Pp (some ⟨g,0,none⟩) none cs ps ws []:=⟨h.keep hv,hp.keep hv,hws,⟨0,0,fun h => absurd h (by simp),fun k hk => absurd hk (by simp)⟩⟩;have hsg:=svG_of (rs:=[]) g0 hz hl hr;have q:=pfholding_any A Pp (some ⟨g,0,none⟩) none cs.length ca ps.length cp ws.length cs.length 0 0 z bt (CeP cs ps ws [] (LvP cs ps)) v hzb (fun k hk hbk u hu => pfces_any A Pp (some ⟨g,0,none⟩) none ca cp cs.length 0 cs ps ws [] (LvP cs ps) v hsv hsg (fun _ x hx => pfleaves_of (h.keep (keepB hv hx)) (hp.keep (keepB hv hx)) g0 h1 h12 _ _ _ _ _ _) k hk (fun e => (by subst e;rw [h3] at hbk;cases hbk)) u hu);rw [hpl,hl] at q
   exact q)
 have he:=fun (g : Nat) (ws : List Pf.RwR) v (hb : Below w.heap.size w v) (hws : IsWs v (some ⟨g,0,none⟩) ws) (hl : ws.length = cs.length) (hr : ws.map Pf.RwR.l = ((List.range cs.length).map fun k => (List.range cs.length).map (Pf.wp (cs.map Ak.dat) ps k))) =>
  (by
   have q:=pfeqf_any Wv (some ⟨g,0,none⟩) cv cs.length vs ws v (hv.keep hb) hws (fun k hk => (by
    have e : (Pf.rat vs k).l = (vs.map Pf.RwR.l)[k]'(by simpa using hk):=by unfold Pf.rat;simp [hk]
    rw [e]
    simp only [hvl]
    simp
    omega)) (by omega) (fun x y v => by go_simp)
   rw [hvn,hl,hvl,hr,decide_eq_true rfl] at q
   exact q)
 obtain ⟨n,hn⟩ : ∃ z,cs.length = z:=⟨_,rfl⟩;have HZ:=Lib.hid hz;have HN:=Lib.hid hn;rw [hpl,hvn];rw [hn] at sv ho he ⊢;have SV:=Lib.hid sv;have HO:=Lib.hid ho;have HE:=Lib.hid he
 have z1 : ¬ z > 31:=by omega
 have z1' : ¬ 31 < z:=by omega
 have z2 : (bits BinOp.and IntKind.u8 z 8 == 0) = true:=(hzb 3 (by decide)).trans (by rw [h3];rfl)
 have z3 : (bits BinOp.and IntKind.u8 z 8 != 0) = false:=by rw [bne,z2];rfl
 clear sv ho he hz hn hpl g0 h1 h12 h hp hv hvl hvn hgd l1 hzb h3
 unfold AcQ
 go_enter Tryz.func28,Tryz.ntmps28
 go_upto_region 1 with fail
 refine at_box2 (fun V hbb B0 B1 hVs => ?_);have p0:=B0.c 0 rfl
 unfold NsQ at SV
 (go_wp2_with fail);refine (SV.out _ hbb).mono ?_;rintro e w1 ⟨hb,⟨a,b,s,ha,hb1,hne,rfl⟩ | ⟨hz,g,ws,hws,hl,hr,⟨-,rfl⟩ | ⟨hf,-⟩⟩⟩
 ·exact absurd (HZ.out a b (by rw [HN.out];exact ha) (by rw [HN.out];exact hb1)) hne
 ·have hrow:=rows_of (cs:=cs) (ps:=ps) (by rw [HN.out];exact hl) (fun k hk => by rw [HN.out] at hk ⊢;exact hr k hk)
  have HRW:=Lib.hid hrow;have HL:=Lib.hid hl;have HR:=Lib.hid hr;have hws2:=hws.mono (show w.heap.size + 2 ≤ V.heap.size by omega) (Nat.le_refl _);have hVw1:=hb.size;replace hbb:=keepB hbb hb;replace B1:=B1.keep hb;clear p0 B0 hws hb hl hr hz hrow SV HZ
  go_upto_region 4 with fail
  refine at_worldQ (fun v => Below w.heap.size w v∧BK v (w.heap.size + 1) [.int .u8 z,.slice Wv n cv]∧BK v w1.heap.size [.slice A n ca,.slice Pp n cp,.slice (some ⟨g,0,none⟩) n n,.slice none 0 0]∧WsB v (w.heap.size + 2) w1.heap.size (some ⟨g,0,none⟩) ws) ⟨below_al hbb _,B1.al _,BK.new _ _ _,hws2.keep (below_al (Below.refl _ _) _)⟩ (fun V4 hS => ?_);clear hbb B1 hws2;obtain ⟨hbb,B1,B6,hws⟩:=hS;obtain ⟨p6,hp6⟩ : ∃ z,w1.heap.size = z:=⟨_,rfl⟩;rw [hp6] at B6 hws hVw1 ⊢;have q2:=B6.c 2 rfl;have z0:=B1.c 0 rfl;have zw:=B1.c 1 rfl;have he:=HE.out g ws V4 hbb hws.isWs HL.out (by rw [← HN.out];exact HRW.out);have HE2:=Lib.hid he;clear he HE hp6;(go_wp2_with fail);refine HE2.out.mono ?_;rintro e w2 ⟨rfl,hb2⟩;replace hbb:=keepB hbb hb2;replace B1:=B1.keep hb2;replace B6:=B6.keep hb2;replace hws:=hws.keep hb2;clear hb2 q2 z0 zw HE2;have z0:=B1.c 0 rfl
  go_upto_region 10 with fail
  refine at_worldQ (fun v => Below w.heap.size w v∧BK v (w.heap.size + 1) [.int .u8 z,.slice Wv n cv]∧BK v p6 [.slice A n ca,.slice Pp n cp,.slice (some ⟨g,0,none⟩) n n,.slice none 0 0]∧WsB v (w.heap.size + 2) p6 (some ⟨g,0,none⟩) ws) ⟨hbb,B1,B6,hws⟩ (fun V10 hS => ?_);clear hbb B1 B6 hws z0;obtain ⟨hbb,B1,B6,hws⟩:=hS;have z0:=B1.c 0 rfl;have q0:=B6.c 0 rfl;have q1:=B6.c 1 rfl;have q2:=B6.c 2 rfl;have q3:=B6.c 3 rfl
  have hoo:=fun W (hG : Below V10.heap.size V10 W) => HO.out g ws W (keepB hbb hG) (hws.keep hG).isWs HL.out HR.out
  have HOO:=Lib.hid hoo;clear hoo HO z1 z1' z2 z3;refine wp_region_noPanic ?_;refine wp_region_held_drew (S:=(Below V10.heap.size V10)) (by kernel_rfl) ((Below.refl _ _).drew) (fun hHeld => ?_);refine at_anyH (Below V10.heap.size V10) hHeld (fun wa0 hNew => ?_);clear hHeld;have hHeld:=hNew;clear hNew;refine tkm 0 rfl hHeld (fun w hSw => by have kq0:=keepC hSw q0;have kq1:=keepC hSw q1;have kq2:=keepC hSw q2;have kq3:=keepC hSw q3;have kz0:=keepC hSw z0;go_simp <;> with_reducible rfl) ?_;(try simp only [PPz]);refine tkd 1 ?_;(try simp only [PPz]);refine tkm 2 rfl hHeld (fun w hSw => by have kq0:=keepC hSw q0;have kq1:=keepC hSw q1;have kq2:=keepC hSw q2;have kq3:=keepC hSw q3;have kz0:=keepC hSw z0;go_simp <;> with_reducible rfl) ?_;(try simp only [PPz]);refine tkd 4 ?_;(try simp only [PPz]);refine tkm 5 rfl hHeld (fun w hSw => by have kq0:=keepC hSw q0;have kq1:=keepC hSw q1;have kq2:=keepC hSw q2;have kq3:=keepC hSw q3;have kz0:=keepC hSw z0;go_simp <;> with_reducible rfl) ?_;(try simp only [PPz]);refine rdy1 3 rfl (fun K hK => ?_);go_simp;refine (HOO.out _ hHeld).mono ?_;rintro e wa6 ⟨F,rfl,hb3,hF⟩;have HFF:=Lib.hid hF;clear hF;(go_wp2_with fail);refine hK.out _ _ (keepB hHeld hb3) (fun hNew => ?_);replace hHeld:=hNew;clear hNew hK K hb3;(try simp only [PPz]);refine tkd 6 ?_;refine tkd 7 ?_;refine tkd 8 ?_;(try simp only [PPz]);refine wpAnyH_done (by kernel_rfl) ?_ _;refine NoPanic.normal ?_;replace hbb:=keepB hbb hHeld;clear hHeld;(go_wp2_with fail)
  go_ret2
  first
   | exact ⟨hbb,F,ws,rfl,HRW.out,HFF.out⟩
   | exact ⟨_,rfl,hbb,F,ws,rfl,HRW.out,HFF.out⟩
 ·cases hf
end Go.Proofs.YtogmfebphiglaaaGreat


