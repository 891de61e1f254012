/- Package piece's endsOf and pieceOf. Package piece's set operations. Package proof: pieces, rows of ratios and tables in memory; what claims say, as functions on lists. Package proof: slices.Grow of nil, slices.Concat of pieces. Package proof: slices.Equal of ratios, slices.EqualFunc of tables. -/
import Derived.Deep.RegionLaw
import Derived.Test.YtogmfebphiglaaaGreatPsweep
import Derived.Test.YtogmfebphiglaaaGreatPck
import Derived.Test.YtogmfebphiglaaaGreatM13
import Derived.Lib.AppendZeros
import Derived.Lib.SliceRun
import Derived.Deep.CutBlock
import Derived.Deep.DeepCutAuto
set_option linter.unusedSimpArgs false
set_option maxHeartbeats 8000000
set_option maxRecDepth 100000
namespace Go.Proofs.YtogmfebphiglaaaGreat
open Go.RowKit
set_option linter.unusedSimpArgs false in
set_option maxHeartbeats 4000000 in
set_option maxRecDepth 100000 in
theorem endsOf_any (A : Option Addr) (cap : Nat) (L : List (Rat × Rat)) (w : World) (hl : L.length ≤ 60) (h : IsS w A (L.map Pc.raw)) :
 Calls Tryz.prog 242 #[.slice A L.length cap] w fun e w' => ∃ v,e = .returned v∧Acc w w.heap.size 31 2 v (Pc.ends L).length (Pc.cells2 (Pc.ends L)) w':=by
 obtain ⟨b,off,hA,hc⟩:=h.cell;have QS:=Lib.hid h.bd;have HC:=Lib.hid hc;have HA:=Lib.hid hA;obtain ⟨i0,hi0,hz0,hz1,hz2⟩:=info_parts ratInfo;have HI:=Lib.hid hi0;have HI2:=Lib.hid hz0;have HI3:=Lib.hid hz1;have HI4:=Lib.hid hz2;clear h hc hA hi0 hz0 hz1 hz2
 go_enter Tryz.func242,Tryz.ntmps242
 go_upto_region 2 with (at_make;go_loud (refine wpList_make_own _ rfl _ _ _ rfl w.heap.size 31 i0 _ 2 Tryz.underlying68 HI.out HI2.out HI3.out _ _ _ (2 * L.length) (by rfl) (by rfl) (by omega) (by rw [HI4.out];omega) (by unfold maxLen;omega) (Nat.le_refl _) ?_);intro w1 hown hg)
 refine at_worldQ (fun v => Acc w w.heap.size 31 2 (.slice (some ⟨w.heap.size,0,none⟩) 0 (2 * L.length)) 0 [] v) ⟨(Below.refl _ _).grown hg (Nat.le_refl _) (fun j e => (by cases e)),hg.size,hown⟩ (fun V hS => ?_);clear hown hg
 generalize (Value.slice (some ⟨w.heap.size,0,none⟩) 0 (2 * L.length)) = v0 at *
 go_wp2_with fail
 go_loopw [3,5,12] (fun v _ i W => ∃ k : Nat,k ≤ L.length∧i = .int .i64 k∧Acc w w.heap.size 31 2 v (Pc.ends (L.take k)).length (Pc.cells2 (Pc.ends (L.take k))) W) (fun _ _ i _ => L.length - (intOf i).toNat)
 case atStart => exact ⟨0,Nat.zero_le _,rfl,hS⟩
 case round =>
  clear hS;obtain ⟨k,hk,rfl,hR⟩:=hrel
  by_cases hlt : k < L.length
  ·have hA':=HA.out (by omega)
   subst hA';have hsb:=QS.out k;rw [Pc.at_map L hlt] at hsb;obtain ⟨s,hs⟩ : ∃ s,Pc.sat L k = s:=⟨_,rfl⟩;rw [hs] at hsb;have c0:=keepC hR.bb (HC.out k hlt).1;have c1:=keepC hR.bb (HC.out k hlt).2.1;have c2:=keepC hR.bb (HC.out k hlt).2.2.1;have c3:=keepC hR.bb (HC.out k hlt).2.2.2;rw [hs] at c0 c1 c2 c3;have HT:=Lib.hid (show L.take (k + 1) = L.take k ++ [s] by rw [← hs];exact Pc.take_snoc L (0,0) hlt);have htl:=Pc.ends_len (L.take k)
   have htk : (L.take k).length ≤ 60:=by rw [List.length_take];omega
   generalize L.take k = T at *
   clear hs;have hO:=hR.row
   generalize hE' : (Pc.ends T).length = nE at *
   have hE:=Lib.hid hE'
   have hnE : nE ≤ 120:=by omega
   clear htl htk hE'
   go_upto_region 5 with fail
   refine at_worldQ (fun v => Acc w w.heap.size 31 2 _ nE (Pc.cells2 (Pc.ends T)) v∧BK v wr.heap.size [.int .i64 s.1.num,.int .i64 (s.1.den : Int),.int .i64 s.2.num,.int .i64 (s.2.den : Int)]) ⟨hR.keep (below_al (Below.refl _ _) _),BK.new wr [.int .i64 s.1.num,.int .i64 (s.1.den : Int),.int .i64 s.2.num,.int .i64 (s.2.den : Int)] _⟩ (fun V5 hS5 => ?_);clear hR hO c0 c1 c2 c3;obtain ⟨hR,BP⟩:=hS5;have p0:=BP.c 0 rfl;have p1:=BP.c 1 rfl;have p2:=BP.c 2 rfl;have p3:=BP.c 3 rfl
   generalize wr.heap.size = PP at *
   have hB:=hR.hB
   go_wp2_with (at_builtin;go_loud (refine wpList_append_lies _ rfl _ _ _ rfl w.heap.size 31 i0 _ 2 16 Tryz.underlying68 HI.out HI2.out HI3.out HI4.out rfl (by omega) _ nE (Pc.cells2 (Pc.ends T)) (by rfl) (World.ownsRow.alloc hR.row _) ⟨V5.heap.size,0,none⟩ 2 2 [.int .i64 s.1.num,.int .i64 (s.1.den : Int),.int .i64 s.2.num,.int .i64 (s.2.den : Int)] (by rfl) (by rfl) (World.news_of_block (cs:=#[.int .i64 s.1.num,.int .i64 (s.1.den : Int),.int .i64 s.2.num,.int .i64 (s.2.den : Int)]) (t:=31) (fr:=(0,0)) (heap_alloc_new V5 _)) (by simp [Value.oneCell']) (by omega) (by unfold maxLen;omega) (by omega) (by simp;omega) (V5.heap.size + 1) (by simp) ?_);intro g cap w1 hown1 hgrow hat hlt)
   have hnew:=hR.app ((Below.refl _ V5).alloc (Nat.le_refl _) _) hown1 hgrow
   go_roundw
   case rel =>
    refine ⟨k + 1,by omega,by go_num,?_⟩;rw [HT.out,Pc.ends_app,Pc.cells2_app,List.length_append,hE.out];exact hnew
   case measure => simp [intOf];omega
  ·obtain rfl : k = L.length:=by omega
   rw [List.take_length] at hR;clear HA HC QS;(go_wp2_with fail)
   go_ret
   exact ⟨_,rfl,hR⟩
namespace Pc
theorem pairs_len : ∀ (n : Nat) (l : List Rat),l.length ≤ n → (pairs l).length = l.length / 2:=by
 intro n
 induction n with
 | zero => intro l h;have : l = []:=List.eq_nil_of_length_eq_zero (by omega);subst this;rfl
 | succ n ih =>
  intro l h
  match l,h with
  | [],_ => rfl
  | [_],_ => simp [pairs]
  | p :: q :: l,h =>
   simp only [List.length_cons] at h
   have:=ih l (by omega)
   simp only [pairs,List.length_cons,this]
   omega
theorem pairs_at : ∀ (k : Nat) (l : List Rat),k < l.length / 2 → sat (pairs l) k = (qat l (2 * k),qat l (2 * k + 1)):=by
 intro k
 induction k with
 | zero =>
  intro l h
  match l,h with
  | [],h => simp at h
  | [_],h => simp at h
  | p :: q :: l,_ => rfl
 | succ k ih =>
  intro l h
  match l,h with
  | [],h => simp at h
  | [_],h => simp at h
  | p :: q :: l,h =>
   have:=ih l (by simp at h;omega)
   unfold sat qat at this ⊢
   rw [show 2 * (k + 1) = 2 * k + 1 + 1 by omega,show 2 * k + 1 + 1 + 1 = (2 * k + 1) + 1 + 1 by omega]
   simpa [pairs] using this
/-- pieceOf's piece and error. -/
def ofE (l : List Rat) : List (Rat × Rat) × Int:=if 60 < l.length / 2 then ([],4) else (pairs l,0)
end Pc
set_option linter.unusedSimpArgs false in
set_option maxHeartbeats 4000000 in
set_option maxRecDepth 100000 in
theorem pieceOf_any (A : Option Addr) (cap : Nat) (l : List Rat) (w : World) (hl : l.length ≤ 1000) (hf : ∀ r ∈ l,Pc.Fit r) (h : IsQ w A l) :
 Calls Tryz.prog 240 #[.slice A l.length cap] w fun e w' => ∃ v,e = .returned (.tuple #[v,.int .i64 (Pc.ofE l).2])∧Acc w w.heap.size 70 4 v (Pc.ofE l).1.length (Pc.cells4 (Pc.ofE l).1) w':=by
 by_cases hm : 60 < l.length / 2
 ·have e : Pc.ofE l = ([],4):=by unfold Pc.ofE;rw [if_pos hm]
  rw [e]
  have hd : (l.length : Int).tdiv 2 = ((l.length / 2 : Nat) : Int):=by rw [Int.tdiv_eq_ediv_of_nonneg (by omega)];omega
  have hg : decide ((60 : Int) < ((l.length / 2 : Nat) : Int)) = true:=decide_eq_true (by omega);clear h hf
  go_enter Tryz.func240,Tryz.ntmps240
  go_wp2_with fail
  go_ret2
  exact ⟨_,rfl,Below.refl _ _,Nat.le_refl _,World.ownsRow_nil _ _ _ _⟩
 ·have e : Pc.ofE l = (Pc.pairs l,0):=by unfold Pc.ofE;rw [if_neg hm]
  rw [e];clear e
  have hd : (l.length : Int).tdiv 2 = ((l.length / 2 : Nat) : Int):=by rw [Int.tdiv_eq_ediv_of_nonneg (by omega)];omega
  have hg : decide ((60 : Int) < ((l.length / 2 : Nat) : Int)) = false:=decide_eq_false (by omega)
  obtain ⟨b,off,hA,hc⟩ : ∃ b off,(0 < l.length → A = some ⟨b,off,none⟩)∧∀ i,i < l.length → w.cell? ⟨b,off + i * 2,none⟩ = some (.int .i64 (Pc.qat l i).num)∧w.cell? ⟨b,off + i * 2 + 1,none⟩ = some (.int .i64 ((Pc.qat l i).den : Int)):=by
   by_cases h0 : 0 < l.length
   ·obtain ⟨b,off,e,hc⟩:=h h0
    exact ⟨b,off,fun _ => e,hc⟩
   ·exact ⟨0,0,fun k => absurd k h0,fun i hi => absurd hi (by omega)⟩
  have HC:=Lib.hid hc;have HA:=Lib.hid hA;have HF:=Lib.hid (show ∀ i,i < l.length → Pc.Fit (Pc.qat l i) from fun i hi => by rw [Pc.qat_lt hi];exact hf _ (List.getElem_mem hi));have HP:=Lib.hid (fun k => Pc.pairs_at k l);have HN:=Lib.hid (Pc.pairs_len _ l (Nat.le_refl _));obtain ⟨i0,hi0,hz0,hz1,hz2⟩:=info_parts spanInfo;have HI:=Lib.hid hi0;have HI2:=Lib.hid hz0;have HI3:=Lib.hid hz1;have HI4:=Lib.hid hz2;clear h hc hA hf hi0 hz0 hz1 hz2;obtain ⟨m,hm'⟩ : ∃ m,l.length / 2 = m:=⟨_,rfl⟩;rw [hm'] at hd hg hm HN
  have hml : 2 * m ≤ l.length:=by omega
  have HM:=Lib.hid hm';clear hm'
  go_enter Tryz.func240,Tryz.ntmps240
  go_upto_region 5 with (at_make;go_loud (refine wpList_make_own _ rfl _ _ _ rfl w.heap.size 70 i0 _ 4 Tryz.underlying45 HI.out HI2.out HI3.out _ _ _ m (by rfl) (by rfl) (by omega) (by rw [HI4.out];omega) (by unfold maxLen;omega) (Nat.le_refl _) ?_);intro w1 hown hg')
  refine at_worldQ (fun v => Acc w w.heap.size 70 4 (.slice (some ⟨w.heap.size,0,none⟩) 0 m) 0 [] v) ⟨(Below.refl _ _).grown hg' (Nat.le_refl _) (fun j e => (by cases e)),hg'.size,hown⟩ (fun V hS => ?_);clear hown hg'
  generalize (Value.slice (some ⟨w.heap.size,0,none⟩) 0 m) = v0 at *
  go_wp2_with fail
  go_loopw [5,6,15] (fun v _ i W => ∃ k : Nat,k ≤ m∧i = .int .i64 k∧Acc w w.heap.size 70 4 v ((Pc.pairs l).take k).length (Pc.cells4 ((Pc.pairs l).take k)) W) (fun _ _ i _ => m - (intOf i).toNat)
  case atStart => exact ⟨0,Nat.zero_le _,rfl,hS⟩
  case round =>
   clear hS;obtain ⟨k,hk,rfl,hR⟩:=hrel
   by_cases hlt : k < m
   ·have hA':=HA.out (by omega)
    subst hA';obtain ⟨p,hp⟩ : ∃ p,Pc.qat l (2 * k) = p:=⟨_,rfl⟩;obtain ⟨q,hq⟩ : ∃ q,Pc.qat l (2 * k + 1) = q:=⟨_,rfl⟩;have c0:=keepC hR.bb (HC.out (2 * k) (by omega)).1;have c1:=keepC hR.bb (HC.out (2 * k) (by omega)).2;have c2:=keepC hR.bb (HC.out (2 * k + 1) (by omega)).1;have c3:=keepC hR.bb (HC.out (2 * k + 1) (by omega)).2;rw [hp] at c0 c1;rw [hq] at c2 c3;have a1 : IntKind.i64.wrap (2 * (k : Int)) = 2 * (k : Int):=IntWalk.i64_in _ (by omega);have a2 : IntKind.i64.wrap (2 * (k : Int) + 1) = 2 * (k : Int) + 1:=IntWalk.i64_in _ (by omega)
    have a3 : (0 : Int) ≤ 2 * (k : Int):=by omega
    have a4 : 2 * (k : Int) < (l.length : Int):=by omega
    have a5 : (0 : Int) ≤ 2 * (k : Int) + 1:=by omega
    have a6 : 2 * (k : Int) + 1 < (l.length : Int):=by omega
    have a7 : (2 * (k : Int)).toNat = 2 * k:=by omega
    have a8 : (2 * (k : Int) + 1).toNat = 2 * k + 1:=by omega
    have HT:=Lib.hid (show (Pc.pairs l).take (k + 1) = (Pc.pairs l).take k ++ [(p,q)] by rw [Pc.take_snoc (Pc.pairs l) (0,0) (by rw [HN.out];exact hlt),← hp,← hq,← HP.out k (by rw [HM.out];exact hlt)];rfl)
    have htk : ((Pc.pairs l).take k).length ≤ 60:=by rw [List.length_take];omega
    generalize (Pc.pairs l).take k = T at *
    clear hp hq;have hO:=hR.row
    generalize hE' : T.length = nE at *
    have hE:=Lib.hid hE';clear hE';have hB:=hR.hB
    go_upto_region 8 with fail
    go_region_law ((refine step_append_lies _ (by rfl) _ _ _ (by rfl) w.heap.size 70 i0 _ 4 32 Tryz.underlying45 HI.out HI2.out HI3.out HI4.out rfl (by omega) _ nE (Pc.cells4 T) (by rfl) (World.ownsRow.alloc (World.ownsRow.drew hR.row) _) ⟨wr.heap.size,0,none⟩ 1 1 [.int .i64 p.num,.int .i64 (p.den : Int),.int .i64 q.num,.int .i64 (q.den : Int)] (by rfl) (by rfl) (World.news_of_block (cs:=#[.int .i64 p.num,.int .i64 (p.den : Int),.int .i64 q.num,.int .i64 (q.den : Int)]) (t:=70) (fr:=(0,0)) (heap_alloc_new wr.drew _)) (by simp [Value.oneCell']) (by omega) (by unfold maxLen;omega) (by omega) (by simp;omega) (wr.heap.size + 1) (by simp) ?_;intro g cap w1 hown1 hgrow hat hlt))
    all_goals
     (try go_wp2_with fail)
     have hnew:=hR.app (((Below.refl _ wr).drew).alloc (Nat.le_refl _) _) hown1 hgrow
     go_roundw
     case rel =>
      refine ⟨k + 1,by omega,by go_num,?_⟩;rw [HT.out,Pc.cells4_app,List.length_append,hE.out];exact hnew
     case measure => simp [intOf];omega
   ·obtain rfl : k = m:=by omega
    rw [List.take_of_length_le (by rw [HN.out];exact Nat.le_refl _)] at hR;clear HA HC HF HP;(go_wp2_with fail)
    go_ret2
    exact ⟨_,rfl,hR⟩
end Go.Proofs.YtogmfebphiglaaaGreat
namespace Go.Proofs.YtogmfebphiglaaaGreat
open Go.RowKit
namespace Pc
/-- A set operation's piece and error. -/
def setS (f : Bool → Bool → Bool) (xs ys : List Raw) : List (Rat × Rat) × Int :=
 if chk xs = 0 then (if chk ys = 0 then ofE (swp f (ends (xs.map toQ)) (ends (ys.map toQ)) false false false) else ([],chk ys)) else ([],chk xs)
theorem setS_first {f : Bool → Bool → Bool} {xs ys : List Raw} (h : chk xs ≠ 0) : setS f xs ys = ([],chk xs):=by unfold setS;rw [if_neg h]
theorem setS_second {f : Bool → Bool → Bool} {xs ys : List Raw} (h : chk xs = 0) (k : chk ys ≠ 0) : setS f xs ys = ([],chk ys):=by unfold setS;rw [if_pos h,if_neg k]
theorem map_toQ_raw (L : List (Rat × Rat)) : (L.map raw).map toQ = L:=by
 rw [List.map_map]
 have : (toQ ∘ raw) = id:=by
  funext s
  show toQ (raw s) = s
  unfold toQ raw
  simp only [Rp.q_self]
 rw [this,List.map_id]
theorem setS_both {f : Bool → Bool → Bool} {La Lb : List (Rat × Rat)} (h : chk (La.map raw) = 0) (k : chk (Lb.map raw) = 0) : setS f (La.map raw) (Lb.map raw) = ofE (swp f (ends La) (ends Lb) false false false):=by
 unfold setS
 rw [if_pos h,if_pos k,map_toQ_raw,map_toQ_raw]
theorem chg_sub {t : Rat → Bool} : ∀ {l : List Rat} {k : Bool} {r : Rat},r ∈ chg t l k → r ∈ l
 | [],_,_,h => by simp [chg] at h
 | p :: l,k,r,h => by
  unfold chg at h
  split at h
  ·exact List.mem_cons_of_mem _ (chg_sub h)
  ·rcases List.mem_cons.1 h with rfl | h
   ·simp
   ·exact List.mem_cons_of_mem _ (chg_sub h)
theorem chg_len {t : Rat → Bool} : ∀ {l : List Rat} {k : Bool},(chg t l k).length ≤ l.length
 | [],_ => Nat.le_refl _
 | p :: l,k => by
  unfold chg
  split
  ·have:=chg_len (t:=t) (l:=l) (k:=k);simp;omega
  ·have:=chg_len (t:=t) (l:=l) (k:=t p);simp;omega
theorem mrg_len : ∀ (n : Nat) (a b : List Rat),a.length + b.length ≤ n → (mrg a b).length ≤ a.length + b.length:=by
 intro n
 induction n with
 | zero => intro a b h;have ha : a = []:=List.eq_nil_of_length_eq_zero (by omega);have hb : b = []:=List.eq_nil_of_length_eq_zero (by omega);subst ha hb;unfold mrg;simp
 | succ n ih =>
  intro a b h
  by_cases k : a = []∧b = []
  ·obtain ⟨rfl,rfl⟩:=k;unfold mrg;simp
  ·unfold mrg;rw [dif_neg k]
   have hh:=near_hit a b k;have h1:=off_len (near a b) a;have h2:=off_len (near a b) b
   have hl : (off (near a b) a).length + (off (near a b) b).length + 1 ≤ a.length + b.length:=by
    rcases hh with k | k
    ·have:=off_lt _ _ k;omega
    ·have:=off_lt _ _ k;omega
   have:=ih (off (near a b) a) (off (near a b) b) (by omega);rw [List.length_cons]
   omega
theorem swp_fit (f : Bool → Bool → Bool) {La Lb : List (Rat × Rat)} (gA : Good La) (gB : Good Lb) : (∀ r ∈ swp f (ends La) (ends Lb) false false false,Fit r)∧(swp f (ends La) (ends Lb) false false false).length ≤ 240:=by
 rw [swp_chg f _ _ _ (Nat.le_refl _) gA.inc gB.inc];have l1:=ends_len La;have l2:=ends_len Lb;have g1:=gA.len;have g2:=gB.len;refine ⟨fun r hr => ?_,?_⟩
 ·have:=(mem_mrg _ _ _ (Nat.le_refl _) r).1 (chg_sub hr)
  exact this.elim (gA.fit r) (gB.fit r)
 ·refine Nat.le_trans chg_len (Nat.le_trans (mrg_len _ _ _ (Nat.le_refl _)) ?_)
  omega
end Pc
theorem row_cap {w : World} {B : Nat} {e : TypeId} {sz n : Nat} {v : Value} {cs : List Value} (h : w.ownsRow B e sz v n cs) : ∃ A cap,v = .slice A n cap∧n ≤ cap:=by
 rcases h.2 with ⟨h1,h2⟩ | ⟨g,cap,cur,h1,_,_,h4,_⟩
 ·exact ⟨none,0,by rw [h1,h2],by omega⟩
 ·exact ⟨_,_,h1,h4⟩
theorem Acc.rebase0 {w V W : World} {e : TypeId} {sz n : Nat} {v : Value} {cs : List Value} (hb : Below w.heap.size w V) (h : Acc V V.heap.size e sz v n cs W) : Acc w w.heap.size e sz v n cs W :=
 ⟨hb.trans (h.bb.mono hb.size),Nat.le_trans hb.size h.hB,World.ownsRow.mono h.row hb.size⟩
theorem combine_any (g : FuncId) (f : Bool → Bool → Bool) (hK : ∀ x y v,Calls Tryz.prog g #[.bool x,.bool y] v fun e w' => e = .returned (.bool (f x y))∧Below v.heap.size v w') (hE : ∀ (x y : Bool) (v : World),Sem.run Tryz.prog (callFunc g #[.bool x,.bool y]) v = .ok (.enter g #[.bool x,.bool y]) v)
 (A B : Option Addr) (ca cb : Nat) (xs ys : List Raw) (w : World) (ha : IsS w A xs) (hb : IsS w B ys) :
 Calls Tryz.prog 229 #[.slice A xs.length ca,.slice B ys.length cb,.func (.func g) #[] #[]] w fun e w' => ∃ v,e = .returned (.tuple #[v,.int .i64 (Pc.setS f xs ys).2])∧Acc w w.heap.size 70 4 v (Pc.setS f xs ys).1.length (Pc.cells4 (Pc.setS f xs ys).1) w':=by
 have ck:=fun v (hv : Below w.heap.size w v) => pChk_any A ca xs v (ha.keep hv)
 have dk:=fun v (hv : Below w.heap.size w v) => pChk_any B cb ys v (hb.keep hv)
 by_cases hx : Pc.chk xs = 0
 ·by_cases hy : Pc.chk ys = 0
  ·obtain ⟨La,rfl,gA⟩:=Pc.chk_good hx
   obtain ⟨Lb,rfl,gB⟩:=Pc.chk_good hy;have hs:=Pc.swp_fit f gA gB;rw [Pc.setS_both hx hy];rw [hx] at ck;rw [hy] at dk;rw [List.length_map] at ck dk ⊢;rw [List.length_map];have CK:=Lib.hid ck;have DK:=Lib.hid dk;have EA:=Lib.hid (fun v (hv : Below w.heap.size w v) => endsOf_any A ca La v gA.len (ha.keep hv));have EB:=Lib.hid (fun v (hv : Below w.heap.size w v) => endsOf_any B cb Lb v gB.len (hb.keep hv));have SW:=Lib.hid (fun A' B' ca' cb' v h1 h2 h3 h4 => sweep_any A' B' ca' cb' (Pc.ends La) (Pc.ends Lb) g f v hK hE h1 h2 gA.fit gB.fit (by have:=Pc.ends_len La;have:=Pc.ends_len Lb;have:=gA.len;have:=gB.len;omega) h3 h4);have PO:=Lib.hid (fun A' ca' v h1 => pieceOf_any A' ca' (Pc.swp f (Pc.ends La) (Pc.ends Lb) false false false) v (by have:=hs.2;omega) hs.1 h1)
   generalize Pc.swp f (Pc.ends La) (Pc.ends Lb) false false false = S at *
   generalize Pc.ofE S = R at *
   clear ck dk hx hy ha hb gA gB hs hK hE
   go_enter Tryz.func229,Tryz.ntmps229
   (go_wp2_with fail);refine (CK.out _ (Below.refl _ _)).mono ?_;rintro e w1 ⟨rfl,hb1⟩;(go_wp2_with fail);refine (DK.out _ hb1).mono ?_;rintro e w2 ⟨rfl,hb2⟩;replace hb2:=keepB hb1 hb2;clear hb1;(go_wp2_with fail);refine (EA.out _ hb2).mono ?_;rintro e w3 ⟨v3,rfl,hv3⟩;obtain ⟨A3,c3,rfl,hc3⟩:=row_cap hv3.row;have hb3:=keepB hb2 hv3.bb;have q3:=isQ_row hv3.row rfl;clear hv3 hb2;(go_wp2_with fail);refine (EB.out _ hb3).mono ?_;rintro e w4 ⟨v4,rfl,hv4⟩;obtain ⟨A4,c4,rfl,hc4⟩:=row_cap hv4.row;have hb4:=keepB hb3 hv4.bb;replace q3:=q3.keep hv4.bb;have q4:=isQ_row hv4.row rfl;clear hv4 hb3;(go_wp2_with fail);refine (SW.out _ _ _ _ _ q3 q4 hc3 hc4).mono ?_;rintro e w5 ⟨v5,rfl,hv5⟩;obtain ⟨A5,c5,rfl,hc5⟩:=row_cap hv5.row;have hb5:=keepB hb4 hv5.bb;have q5:=isQ_row hv5.row rfl;clear hv5 hb4 q3 q4;(go_wp2_with fail);refine (PO.out _ _ _ q5).mono ?_;rintro e w6 ⟨v6,rfl,hv6⟩;have hr:=Acc.rebase0 hb5 hv6;clear hv6 q5;(go_wp2_with fail)
   go_ret2
   exact ⟨_,rfl,hr⟩
  ·rw [Pc.setS_second hx hy]
   rw [hx] at ck
   have n1 : (Pc.chk ys != 0) = true:=by rw [bne_iff_ne];exact hy
   generalize Pc.chk ys = c at *
   have CK:=Lib.hid ck;have DK:=Lib.hid dk;clear ck dk hx hy ha hb hK hE
   go_enter Tryz.func229,Tryz.ntmps229
   (go_wp2_with fail);refine (CK.out _ (Below.refl _ _)).mono ?_;rintro e w1 ⟨rfl,hb1⟩;(go_wp2_with fail);refine (DK.out _ hb1).mono ?_;rintro e w2 ⟨rfl,hb2⟩;replace hb2:=keepB hb1 hb2;(go_wp2_with fail)
   go_ret2
   exact ⟨_,rfl,hb2,hb2.size,World.ownsRow_nil _ _ _ _⟩
 ·rw [Pc.setS_first hx]
  have n1 : (Pc.chk xs != 0) = true:=by rw [bne_iff_ne];exact hx
  generalize Pc.chk xs = c at *
  have CK:=Lib.hid ck;clear ck dk hx ha hb hK hE
  go_enter Tryz.func229,Tryz.ntmps229
  (go_wp2_with fail);refine (CK.out _ (Below.refl _ _)).mono ?_;rintro e w1 ⟨rfl,hb1⟩;(go_wp2_with fail)
  go_ret2
  exact ⟨_,rfl,hb1,hb1.size,World.ownsRow_nil _ _ _ _⟩
set_option maxHeartbeats 1000000 in
theorem pMeet_any (A B : Option Addr) (ca cb : Nat) (xs ys : List Raw) (w : World) (ha : IsS w A xs) (hb : IsS w B ys) :
 Calls Tryz.prog 220 #[.slice A xs.length ca,.slice B ys.length cb] w fun e w' => ∃ v,e = .returned (.tuple #[v,.int .i64 (Pc.setS (fun x y => x && y) xs ys).2])∧Acc w w.heap.size 70 4 v (Pc.setS (fun x y => x && y) xs ys).1.length (Pc.cells4 (Pc.setS (fun x y => x && y) xs ys).1) w':=by
 have C:=Lib.hid (combine_any 230 (fun x y => x && y) pboth_any (fun x y v => by go_simp) A B ca cb xs ys w ha hb)
 generalize Pc.setS (fun x y => x && y) xs ys = R at *
 clear ha hb
 go_enter Tryz.func220,Tryz.ntmps220
 (go_wp2_with fail);refine C.out.mono ?_;rintro e w1 ⟨v,rfl,hv⟩;(go_wp2_with fail)
 go_ret2
 exact ⟨_,rfl,hv⟩
end Go.Proofs.YtogmfebphiglaaaGreat
namespace Go.Proofs.YtogmfebphiglaaaGreat
open Go.RowKit
namespace Pf
/-- A piece in memory. -/
structure PcR where
 A : Option Addr
 cap : Nat
 L : List (Rat × Rat)
/-- A row of ratios in memory. -/
structure RwR where
 A : Option Addr
 cap : Nat
 l : List (Int × Int)
def pat (l : List PcR) (k : Nat) : PcR:=l.getD k ⟨none,0,[]⟩
def rat (l : List RwR) (k : Nat) : RwR:=l.getD k ⟨none,0,[]⟩
def iat (l : List (Int × Int)) (k : Nat) : Int × Int:=l.getD k (0,0)
def prs (l : List (Int × Int)) : List Value:=l.flatMap fun r => [.int .i64 r.1,.int .i64 r.2]
theorem prs_snoc (l : List (Int × Int)) (r : Int × Int) : prs (l ++ [r]) = prs l ++ [.int .i64 r.1,.int .i64 r.2]:=by unfold prs;simp
theorem prs_at : ∀ {l : List (Int × Int)} {k : Nat},k < l.length → (prs l)[k * 2]? = some (.int .i64 (iat l k).1)∧(prs l)[k * 2 + 1]? = some (.int .i64 (iat l k).2)
 | r :: l,0,_ => ⟨rfl,rfl⟩
 | r :: l,k + 1,h => by
  have ih:=prs_at (l:=l) (k:=k) (by simpa using h);have e : prs (r :: l) = .int .i64 r.1 :: .int .i64 r.2 :: prs l:=rfl;rw [e,show (k + 1) * 2 = k * 2 + 1 + 1 by omega,show k * 2 + 1 + 1 + 1 = (k * 2 + 1) + 1 + 1 by omega]
  simp only [List.getElem?_cons_succ]
  exact ih
end Pf
/-- A row of ratios. -/
def IsRw (w : World) (A : Option Addr) (l : List (Int × Int)) : Prop:=∃ b o,(0 < l.length → A = some ⟨b,o,none⟩)∧∀ k,k < l.length → w.cell? ⟨b,o + k * 2,none⟩ = some (.int .i64 (Pf.iat l k).1)∧w.cell? ⟨b,o + k * 2 + 1,none⟩ = some (.int .i64 (Pf.iat l k).2)
theorem IsRw.keep {w v : World} {A : Option Addr} {l : List (Int × Int)} (h : IsRw w A l) (hb : Below w.heap.size w v) : IsRw v A l:=by
 obtain ⟨b,o,h1,h2⟩:=h;exact ⟨b,o,h1,fun k hk => ⟨keepC hb (h2 k hk).1,keepC hb (h2 k hk).2⟩⟩
/-- A row of ratios that lies between two blocks. -/
def RsB (w : World) (B H : Nat) (A : Option Addr) (l : List (Int × Int)) : Prop:=∃ b o,(0 < l.length → (B ≤ b∧b < H)∧A = some ⟨b,o,none⟩)∧∀ k,k < l.length → w.cell? ⟨b,o + k * 2,none⟩ = some (.int .i64 (Pf.iat l k).1)∧w.cell? ⟨b,o + k * 2 + 1,none⟩ = some (.int .i64 (Pf.iat l k).2)
theorem RsB.isRw {w : World} {B H : Nat} {A : Option Addr} {l : List (Int × Int)} (h : RsB w B H A l) : IsRw w A l:=by
 obtain ⟨b,o,h1,h2⟩:=h;exact ⟨b,o,fun h => (h1 h).2,h2⟩
theorem RsB.mono {w : World} {B B' H H' : Nat} {A : Option Addr} {l : List (Int × Int)} (h : RsB w B H A l) (hb : B' ≤ B) (hh : H ≤ H') : RsB w B' H' A l:=by
 obtain ⟨b,o,h1,h2⟩:=h;exact ⟨b,o,fun h => ⟨by have:=(h1 h).1;omega,(h1 h).2⟩,h2⟩
theorem RsB.keep {w v : World} {B H : Nat} {A : Option Addr} {l : List (Int × Int)} (h : RsB w B H A l) (hb : Below w.heap.size w v) : RsB v B H A l:=by
 obtain ⟨b,o,h1,h2⟩:=h;exact ⟨b,o,h1,fun k hk => ⟨keepC hb (h2 k hk).1,keepC hb (h2 k hk).2⟩⟩
theorem RsB.gb {V W : World} {F : Nat → Prop} {B H : Nat} {A : Option Addr} {l : List (Int × Int)} (h : RsB V B H A l) (hg : GB F V W) (hF : ∀ k,F k → k < B ∨ H ≤ k) : RsB W B H A l:=by
 obtain ⟨b,o,h1,h2⟩:=h;refine ⟨b,o,h1,fun k hk => ?_⟩
 have hn : ¬ F b:=fun hf => by
  have:=hF b hf;have:=(h1 (by omega)).1
  omega
 exact ⟨hg.cell hn (h2 k hk).1,hg.cell hn (h2 k hk).2⟩
theorem rsB_row {w : World} {B : Nat} {e : TypeId} {A : Option Addr} {n cap : Nat} {l : List (Int × Int)} (h : w.ownsRow B e 2 (.slice A n cap) n (Pf.prs l)) (hn : n = l.length) : RsB w B w.heap.size A l:=by
 by_cases h0 : 0 < l.length
 ·obtain ⟨g,cap',hv,hg,hlt⟩:=World.ownsRow.form h (by omega)
  simp only [Value.slice.injEq] at hv
  obtain ⟨rfl,_,rfl⟩:=hv;refine ⟨g,0,fun _ => ⟨World.ownsRow.lt h g rfl,rfl⟩,fun i hi => ?_⟩;rw [Nat.zero_add,World.ownsRow.cellAt h (i * 2) (by omega),World.ownsRow.cellAt h (i * 2 + 1) (by omega)];exact Pf.prs_at hi
 ·exact ⟨0,0,fun h => absurd h h0,fun k hk => absurd hk (by omega)⟩
/-- Pieces. -/
structure IsPs (w : World) (A : Option Addr) (ps : List Pf.PcR) : Prop where
 at_ : ∃ b o,(0 < ps.length → A = some ⟨b,o,none⟩)∧∀ k,k < ps.length → w.cell? ⟨b,o + k,none⟩ = some (.slice (Pf.pat ps k).A (Pf.pat ps k).L.length (Pf.pat ps k).cap)
 all : ∀ k,k < ps.length → IsS w (Pf.pat ps k).A ((Pf.pat ps k).L.map Pc.raw)
theorem IsPs.keep {w v : World} {A : Option Addr} {ps : List Pf.PcR} (h : IsPs w A ps) (hb : Below w.heap.size w v) : IsPs v A ps:=by
 obtain ⟨⟨b,o,h1,h2⟩,h3⟩:=h;exact ⟨⟨b,o,h1,fun k hk => keepC hb (h2 k hk)⟩,fun k hk => (h3 k hk).keep hb⟩
/-- A table of ratios. -/
structure IsWs (w : World) (A : Option Addr) (ws : List Pf.RwR) : Prop where
 at_ : ∃ b o,(0 < ws.length → A = some ⟨b,o,none⟩)∧∀ k,k < ws.length → w.cell? ⟨b,o + k,none⟩ = some (.slice (Pf.rat ws k).A (Pf.rat ws k).l.length (Pf.rat ws k).cap)
 all : ∀ k,k < ws.length → IsRw w (Pf.rat ws k).A (Pf.rat ws k).l
theorem IsWs.keep {w v : World} {A : Option Addr} {ws : List Pf.RwR} (h : IsWs w A ws) (hb : Below w.heap.size w v) : IsWs v A ws:=by
 obtain ⟨⟨b,o,h1,h2⟩,h3⟩:=h;exact ⟨⟨b,o,h1,fun k hk => keepC hb (h2 k hk)⟩,fun k hk => (h3 k hk).keep hb⟩
/-- A table that lies between two blocks. -/
structure WsB (w : World) (B H : Nat) (A : Option Addr) (ws : List Pf.RwR) : Prop where
 at_ : ∃ b o,(0 < ws.length → (B ≤ b∧b < H)∧A = some ⟨b,o,none⟩)∧∀ k,k < ws.length → w.cell? ⟨b,o + k,none⟩ = some (.slice (Pf.rat ws k).A (Pf.rat ws k).l.length (Pf.rat ws k).cap)
 all : ∀ k,k < ws.length → RsB w B H (Pf.rat ws k).A (Pf.rat ws k).l
theorem WsB.isWs {w : World} {B H : Nat} {A : Option Addr} {ws : List Pf.RwR} (h : WsB w B H A ws) : IsWs w A ws:=by
 obtain ⟨⟨b,o,h1,h2⟩,h3⟩:=h;exact ⟨⟨b,o,fun h => (h1 h).2,h2⟩,fun k hk => (h3 k hk).isRw⟩
theorem WsB.mono {w : World} {B B' H H' : Nat} {A : Option Addr} {ws : List Pf.RwR} (h : WsB w B H A ws) (hb : B' ≤ B) (hh : H ≤ H') : WsB w B' H' A ws:=by
 obtain ⟨⟨b,o,h1,h2⟩,h3⟩:=h;exact ⟨⟨b,o,fun h => ⟨by have:=(h1 h).1;omega,(h1 h).2⟩,h2⟩,fun k hk => (h3 k hk).mono hb hh⟩
theorem WsB.keep {w v : World} {B H : Nat} {A : Option Addr} {ws : List Pf.RwR} (h : WsB w B H A ws) (hb : Below w.heap.size w v) : WsB v B H A ws:=by
 obtain ⟨⟨b,o,h1,h2⟩,h3⟩:=h;exact ⟨⟨b,o,h1,fun k hk => keepC hb (h2 k hk)⟩,fun k hk => (h3 k hk).keep hb⟩
theorem WsB.gb {V W : World} {F : Nat → Prop} {B H : Nat} {A : Option Addr} {ws : List Pf.RwR} (h : WsB V B H A ws) (hg : GB F V W) (hF : ∀ k,F k → k < B ∨ H ≤ k) : WsB W B H A ws:=by
 obtain ⟨⟨b,o,h1,h2⟩,h3⟩:=h;refine ⟨⟨b,o,h1,fun k hk => ?_⟩,fun k hk => (h3 k hk).gb hg hF⟩
 have hn : ¬ F b:=fun hf => by
  have:=hF b hf;have:=(h1 (by omega)).1
  omega
 exact hg.cell hn (h2 k hk)
namespace Pf
/-- Two pieces have a point in common. -/
def comB (L M : List (Rat × Rat)) : Bool:=decide ((Pc.setS (fun x y => x && y) (L.map Pc.raw) (M.map Pc.raw)).2 = 4) || decide (0 < (Pc.setS (fun x y => x && y) (L.map Pc.raw) (M.map Pc.raw)).1.length)
end Pf
end Go.Proofs.YtogmfebphiglaaaGreat
namespace Go.Proofs.YtogmfebphiglaaaGreat
open Go.RowKit
theorem run_append_zero {P : Program} (w : World) (t ty e : TypeId) (i : TypeInfo) (ht : P.underlying t = some (.slice e)) (hi : P.info? e = some i) (A B : Option Addr) (n cap c : Nat) (hn : n ≤ cap) :
 (Builtin.append_ #[t,t] ty #[.slice A n cap,.slice B 0 c]).run P w = .ok (.slice A n cap) w:=by
 have hf : (Builtin.firstCells i.size 0 (.slice B 0 c)).run P w = .ok #[] w:=by
  cases B with
  | none => exact run_firstCells_none ..
  | some a => exact run_firstCells_some w i.size 0 a 0 c [] (by simp) (fun j v hj => by simp at hj)
 simp [Builtin.append_,run_underlying ht,sizeOf,typeInfo,hi,Builtin.lenOf,hn,hf]
 cases A <;> simp [storeCells]
namespace Pc
theorem cells4_one {L : List (Rat × Rat)} (u : Value) (hu : u ∈ cells4 L) : u.oneCell' = true:=by
 unfold cells4 cells2 at hu
 rw [List.mem_flatMap] at hu;obtain ⟨r,-,hr⟩:=hu
 simp at hr
 rcases hr with rfl | rfl <;> rfl
theorem cells4_get : ∀ {L : List (Rat × Rat)} {j : Nat} {u : Value},(cells4 L)[j]? = some u → ∃ i,i < L.length∧((j = i * 4∧u = .int .i64 (sat L i).1.num) ∨ (j = i * 4 + 1∧u = .int .i64 ((sat L i).1.den : Int)) ∨ (j = i * 4 + 2∧u = .int .i64 (sat L i).2.num) ∨ (j = i * 4 + 3∧u = .int .i64 ((sat L i).2.den : Int)))
 | [],j,u,h => by simp [cells4,cells2,ends] at h
 | s :: L,j,u,h => by
  have e : cells4 (s :: L) = .int .i64 s.1.num :: .int .i64 (s.1.den : Int) :: .int .i64 s.2.num :: .int .i64 (s.2.den : Int) :: cells4 L:=rfl;rw [e] at h
  match j,h with
  | 0,h => exact ⟨0,by simp,.inl ⟨rfl,by rw [show sat (s :: L) 0 = s from rfl];simpa using h.symm⟩⟩
  | 1,h => exact ⟨0,by simp,.inr (.inl ⟨rfl,by rw [show sat (s :: L) 0 = s from rfl];simpa using h.symm⟩)⟩
  | 2,h => exact ⟨0,by simp,.inr (.inr (.inl ⟨rfl,by rw [show sat (s :: L) 0 = s from rfl];simpa using h.symm⟩))⟩
  | 3,h => exact ⟨0,by simp,.inr (.inr (.inr ⟨rfl,by rw [show sat (s :: L) 0 = s from rfl];simpa using h.symm⟩))⟩
  | j + 4,h =>
   obtain ⟨i,hi,hh⟩:=cells4_get (L:=L) (j:=j) (u:=u) (by simpa using h);refine ⟨i + 1,by simpa using hi,?_⟩
   have es : sat (s :: L) (i + 1) = sat L i:=by simp [sat]
   rw [es]
   rcases hh with ⟨rfl,rfl⟩ | ⟨rfl,rfl⟩ | ⟨rfl,rfl⟩ | ⟨rfl,rfl⟩
   ·exact .inl ⟨by omega,rfl⟩
   ·exact .inr (.inl ⟨by omega,rfl⟩)
   ·exact .inr (.inr (.inl ⟨by omega,rfl⟩))
   ·exact .inr (.inr (.inr ⟨by omega,rfl⟩))
end Pc
theorem pfgrow_any (n : Nat) (hn : n ≤ 1000) (w : World) : Calls Tryz.prog 221 #[.slice none 0 0,.int .i64 (n : Nat)] w fun e w' => ∃ v,e = .returned v∧Below w.heap.size w w'∧w'.ownsRow w.heap.size 70 4 v 0 []:=by
 have h1 : ¬ ((n : Int) < 0):=by omega
 have h2 : IntKind.i64.wrap (n : Int) = (n : Int):=IntWalk.i64_in _ (by omega);obtain ⟨i0,hi0,hz0,hz1,hz2⟩:=info_parts spanInfo
 by_cases h0 : n = 0
 ·subst h0
  go_enter Tryz.func221,Tryz.ntmps221
  go_wp2_with fail
  go_ret
  exact ⟨_,rfl,Below.refl _ _,World.ownsRow_nil _ _ _ _⟩
 ·have h3 : (n : Int) > 0:=by omega
  have hr : ∀ ty,(Builtin.append_ #[45,3] ty #[.slice none 0 0,.int .i64 (n : Int)]).run Tryz.prog w = _:=fun ty => Lib.run_append_nil_zeros w 45 3 ty 70 i0 _ .i64 .i64 Tryz.underlying45 (by kernel_rfl) hi0 hz0 n (by omega) (by rw [hz1];omega) (by omega) (by rw [hz2];omega)
  go_enter Tryz.func221,Tryz.ntmps221
  go_wp2_with (at_builtin;refine Lib.wpList_append_run _ rfl _ _ _ _ rfl _ _ rfl rfl _ _ (hr _) ?_)
  go_wp2_with fail
  go_ret
  have hge:=grownCap_ge w n 0 70;exact ⟨_,rfl,(below_al (Below.refl _ _) _).drew,World.ownsRow.drew (World.ownsRow_made w _ _ (Nat.le_refl _) (grownCap_le_maxLen w n 0 70 (by unfold maxLen;omega)) (by simp [size_zeroCells];omega))⟩
/-- The spans of pieces, one behind the other. -/
def Pf.cat4 (ps : List Pf.PcR) : List (Rat × Rat):=ps.flatMap Pf.PcR.L
theorem pfconcat_any (Pp : Option Addr) (cp : Nat) (ps : List Pf.PcR) (w : World) (hp : IsPs w Pp ps) (hn : ps.length ≤ 6) (hl : ∀ k,k < ps.length → (Pf.pat ps k).L.length ≤ 60) :
 Calls Tryz.prog 195 #[.slice Pp ps.length cp] w fun e w' => ∃ v,e = .returned v∧Below w.heap.size w w'∧w'.ownsRow w.heap.size 70 4 v (Pf.cat4 ps).length (Pc.cells4 (Pf.cat4 ps)):=by
 obtain ⟨⟨pb,po,hP,hpc⟩,hall⟩:=hp
 have hcell:=fun k hk => (hall k hk).cell
 obtain ⟨n,hnn⟩ : ∃ z,ps.length = z:=⟨_,rfl⟩
 have tk : ∀ k,k < n → Pf.cat4 (ps.take (k + 1)) = Pf.cat4 (ps.take k) ++ (Pf.pat ps k).L:=fun k hk => by
  unfold Pf.cat4 Pf.pat
  rw [List.take_succ_eq_append_getElem (by omega),List.flatMap_append]
  simp [show k < ps.length by omega]
 have tl : ∀ k,k ≤ n → (Pf.cat4 (ps.take k)).length ≤ 60 * k:=fun k => by
  induction k with
  | zero => intro _;simp [Pf.cat4]
  | succ k ih =>
   intro hk;rw [tk k (by omega),List.length_append];have:=ih (by omega);have:=hl k (by omega)
   omega
 have nw : ∀ k,k < ps.length → (Pf.pat ps k).L.length ≠ 0 → ∃ b o,(Pf.pat ps k).A = some ⟨b,o,none⟩∧∀ v,Below w.heap.size w v → ∀ j u,(Pc.cells4 (Pf.pat ps k).L)[j]? = some u → v.cell? ⟨b,o + j,none⟩ = some u:=fun k hk h0 => by
  obtain ⟨b,o,hA,hc⟩:=hcell k hk;refine ⟨b,o,hA (by omega),fun v hv j u hj => ?_⟩;obtain ⟨i,hi,hh⟩:=Pc.cells4_get hj;obtain ⟨c0,c1,c2,c3⟩:=hc i hi
  rcases hh with ⟨rfl,rfl⟩ | ⟨rfl,rfl⟩ | ⟨rfl,rfl⟩ | ⟨rfl,rfl⟩
  ·exact keepC hv c0
  ·exact keepC hv c1
  ·exact keepC hv c2
  ·exact keepC hv c3
 have tf : Pf.cat4 (ps.take n) = Pf.cat4 ps:=by rw [List.take_of_length_le (by omega)]
 rw [hnn] at hP hpc hcell hn hl nw ⊢;have HNW:=Lib.hid nw;clear nw;have HPP:=Lib.hid hP;have HPC:=Lib.hid hpc;have HCL:=Lib.hid hcell;have HTK:=Lib.hid tk;have HTL:=Lib.hid tl;have HTF:=Lib.hid tf;have HLL:=Lib.hid hl;obtain ⟨i0,hi0,hz0,hz1,hz2⟩:=info_parts spanInfo;have HI:=Lib.hid hi0;have HI2:=Lib.hid hz0;have HI3:=Lib.hid hz1;have HI4:=Lib.hid hz2;clear hP hpc hcell tk tl tf hall hl hnn hi0 hz0 hz1 hz2
 go_enter Tryz.func195,Tryz.ntmps195
 go_wp2_with fail
 go_loopw [3,11] (fun s i v => ∃ k : Nat,k ≤ n∧i = .int .i64 (k : Nat)∧s = .int .i64 ((Pf.cat4 (ps.take k)).length : Nat)∧v = w) (fun _ i _ => n - (intOf i).toNat)
 case atStart => exact ⟨0,Nat.zero_le _,rfl,by simp [Pf.cat4],rfl⟩
 case round =>
  obtain ⟨k,hk,rfl,rfl,hv⟩:=hrel;have hv2:=hv.symm;subst hv2
  by_cases hlt : k < n
  ·have i1 : (k : Int) < (n : Int):=by omega
   have i2 : (0 : Int) ≤ (k : Int):=by omega
   obtain rfl:=HPP.out (by omega);have q0:=HPC.out k hlt;have ht:=HTK.out k hlt;have h1:=HTL.out k hk;have h2:=HLL.out k hlt
   have ht2 : (Pf.cat4 (ps.take (k + 1))).length = (Pf.cat4 (ps.take k)).length + (Pf.pat ps k).L.length:=by rw [ht,List.length_append]
   have HZ:=Lib.hid ht2;clear ht ht2
   generalize (Pf.cat4 (ps.take k)).length = x at *
   generalize Pf.pat ps k = p at *
   obtain ⟨pA,pc,pL⟩:=p
   dsimp only at *
   generalize pL.length = y at *
   have z1 : IntKind.i64.wrap ((x : Int) + (y : Int)) = (x : Int) + (y : Int):=IntWalk.i64_in _ (by omega)
   have z2 : ¬ (x : Int) + (y : Int) < 0:=by omega
   clear h1 h2;(go_wp2_with fail)
   go_roundw
   case rel => exact ⟨k + 1,by omega,by go_num,by rw [HZ.out];go_num,by first | rfl | trivial⟩
   case measure => (simp [intOf] <;> omega)
  ·obtain rfl : k = n:=by omega
   have i1 : ¬ (k : Int) < (k : Int):=by omega
   have h1:=HTL.out k (Nat.le_refl _);rw [HTF.out] at h1 ⊢;have GRW:=Lib.hid (fun v => pfgrow_any (Pf.cat4 ps).length (by omega) v);(go_wp2_with fail);refine (GRW.out _).mono ?_;rintro e w3 ⟨gv,rfl,hb3,hO3⟩;clear GRW;(go_wp2_with fail)
   go_loopw [6,27] (fun s i v => ∃ j : Nat,j ≤ k∧i = .int .i64 (j : Nat)∧Below w.heap.size w v∧v.ownsRow w.heap.size 70 4 s (Pf.cat4 (ps.take j)).length (Pc.cells4 (Pf.cat4 (ps.take j)))) (fun _ i _ => k - (intOf i).toNat)
   case atStart => exact ⟨0,Nat.zero_le _,rfl,hb3,hO3⟩
   case round =>
    clear hO3 hb3;obtain ⟨j,hj,rfl,hbb,hO⟩:=hrel
    by_cases hlj : j < k
    ·have i2 : (j : Int) < (k : Int):=by omega
     have i3 : (0 : Int) ≤ (j : Int):=by omega
     obtain rfl:=HPP.out (by omega);have q0:=keepC hbb (HPC.out j hlj);have ht:=HTK.out j hlj;have h1:=HTL.out j hj;have h2:=HLL.out j hlj;have hnw:=HNW.out j hlj;have HT:=Lib.hid ht;clear ht;obtain ⟨m,hm⟩ : ∃ z,(Pf.cat4 (ps.take j)).length = z:=⟨_,rfl⟩;rw [hm] at h1 hO;have HM:=Lib.hid hm;clear hm
     generalize Pf.cat4 (ps.take j) = T at *
     generalize Pf.pat ps j = p at *
     obtain ⟨pA,pcap,L2⟩:=p
     dsimp only at *
     obtain ⟨y,hy⟩ : ∃ z,L2.length = z:=⟨_,rfl⟩;rw [hy] at q0 h2 hnw;have HY:=Lib.hid hy;clear hy
     by_cases hy0 : y = 0
     ·subst hy0
      obtain ⟨Ax,cx,rfl,hcx⟩:=row_cap hO
      have hr : ∀ ty,(Builtin.append_ #[45,45] ty #[.slice Ax m cx,.slice pA 0 pcap]).run Tryz.prog wr = _:=fun ty => run_append_zero wr 45 ty 70 i0 Tryz.underlying45 HI.out Ax pA m cx pcap hcx
      go_wp2_with (at_builtin;refine Lib.wpList_append_run _ rfl _ _ _ _ rfl _ _ rfl rfl _ _ (hr _) ?_)
      go_wp2_with fail
      go_roundw
      case rel => exact ⟨j + 1,by omega,by go_num,hbb,by
       have e : L2 = []:=List.eq_nil_of_length_eq_zero HY.out;rw [HT.out,e,List.append_nil,HM.out]
       exact hO⟩
      case measure => (simp [intOf] <;> omega)
     ·obtain ⟨pb2,po2,rfl,hnews⟩:=hnw (by omega)
      have HN2:=Lib.hid (hnews wr hbb);clear hnw hnews;have hbv:=hbb.size
      go_wp2_with (at_builtin;refine wpList_append_lies _ rfl _ _ _ rfl w.heap.size 70 i0 _ 4 32 Tryz.underlying45 HI.out HI2.out HI3.out HI4.out rfl (by omega) _ m (Pc.cells4 T) (by rfl) hO ⟨pb2,po2,none⟩ y pcap (Pc.cells4 L2) (by rfl) (by rw [Pc.cells4_len,HY.out]) (fun j u hj => by rw [Addr.add_lit];exact HN2.out j u hj) (fun u hu => Pc.cells4_one u hu) (by omega) (by unfold maxLen;omega) (by omega) (by omega) _ rfl ?_;intro g9 cap9 w9 hown1 hgrow hat hglt)
      all_goals
       (try go_wp2_with fail)
       go_roundw
       case rel => exact ⟨j + 1,by omega,by go_num,hbb.grown hgrow hbv (fun b e => (World.ownsRow.lt hO b e).1),by
        rw [HT.out,List.length_append,HM.out,HY.out,Pc.cells4_app]
        exact hown1⟩
       case measure => (simp [intOf] <;> omega)
    ·obtain rfl : j = k:=by omega
     have i2 : ¬ (j : Int) < (j : Int):=by omega
     rw [HTF.out] at hO;(go_wp2_with fail)
     go_ret
     exact ⟨_,rfl,hbb,hO⟩
end Go.Proofs.YtogmfebphiglaaaGreat
namespace Go.Proofs.YtogmfebphiglaaaGreat
open Go.RowKit
theorem pfeq_any (A B : Option Addr) (ca cb : Nat) (l m : List (Int × Int)) (w : World) (ha : IsRw w A l) (hb : IsRw w B m) (hl : l.length ≤ 1000) :
 Calls Tryz.prog 72 #[.slice A l.length ca,.slice B m.length cb] w fun e w' => e = .returned (.bool (decide (l = m)))∧Below w.heap.size w w':=by
 by_cases hn : l.length = m.length
 ·obtain ⟨b1,o1,hA,h1⟩:=ha
  obtain ⟨b2,o2,hB,h2⟩:=hb
  have hdec : ∀ k,k ≤ l.length → (∀ j,j < k → Pf.iat l j = Pf.iat m j) → k = l.length → decide (l = m) = true:=fun k hk hj e => by
   refine decide_eq_true (List.ext_getElem hn fun i hi hi2 => ?_);have:=hj i (by omega)
   unfold Pf.iat at this
   simpa [hi,hi2] using this
  have hdec2 : ∀ k,k < l.length → Pf.iat l k ≠ Pf.iat m k → decide (l = m) = false:=fun k hk hne => decide_eq_false fun e => hne (by rw [e])
  obtain ⟨D,hD⟩ : ∃ z,decide (l = m) = z:=⟨_,rfl⟩;rw [hD] at hdec hdec2 ⊢;rw [← hn] at h2 hB ⊢;obtain ⟨n,hnn⟩ : ∃ z,l.length = z:=⟨_,rfl⟩;rw [hnn] at hA hB h1 h2 hl hdec hdec2 ⊢
  by_cases h0 : n = 0
  ·subst h0
   rw [hdec 0 (Nat.le_refl _) (fun j hj => absurd hj (by omega)) rfl];clear hdec hdec2 hD h1 h2 hA hB hn hnn
   go_enter Tryz.func72,Tryz.ntmps72
   go_wp2_with fail
   go_loopw [13] (fun i v => i = .int .i64 0∧v = w) (fun _ _ => 0)
   case atStart => exact ⟨rfl,rfl⟩
   case round =>
    obtain ⟨rfl,rfl⟩:=hrel;(go_wp2_with fail)
    go_ret
    exact ⟨rfl,Below.refl _ _⟩
  ·obtain rfl:=hA (by omega)
   obtain rfl:=hB (by omega);have H1:=Lib.hid h1;have H2:=Lib.hid h2;have HD1:=Lib.hid hdec;have HD2:=Lib.hid hdec2;clear h1 h2 hdec hdec2 hD hA hB hn hnn
   go_enter Tryz.func72,Tryz.ntmps72
   go_wp2_with fail
   go_loopw [13] (fun i v => ∃ k : Nat,k ≤ n∧i = .int .i64 (k : Nat)∧Below w.heap.size w v∧(∀ j,j < k → Pf.iat l j = Pf.iat m j)) (fun i _ => n - (intOf i).toNat)
   case atStart => exact ⟨0,Nat.zero_le _,rfl,Below.refl _ _,fun j hj => absurd hj (by omega)⟩
   case round =>
    obtain ⟨k,hk,rfl,hbb,heq⟩:=hrel;have HE:=Lib.hid heq;clear heq
    by_cases hlt : k < n
    ·have i1 : (k : Int) < (n : Int):=by omega
     have i2 : (0 : Int) ≤ (k : Int):=by omega
     obtain ⟨x0,x1⟩:=H1.out k hlt;obtain ⟨y0,y1⟩:=H2.out k hlt;replace x0:=keepC hbb x0;replace x1:=keepC hbb x1;replace y0:=keepC hbb y0;replace y1:=keepC hbb y1;obtain ⟨⟨p1,p2⟩,hp⟩ : ∃ z,Pf.iat l k = z:=⟨_,rfl⟩;obtain ⟨⟨q1,q2⟩,hq⟩ : ∃ z,Pf.iat m k = z:=⟨_,rfl⟩;rw [hp] at x0 x1;rw [hq] at y0 y1;dsimp only at x0 x1 y0 y1;have HP:=Lib.hid hp;have HQ:=Lib.hid hq;clear hp hq
     go_upto_region 6 with fail
     refine at_worldQ (fun v => Below w.heap.size w v∧v.cell? ⟨b1,o1 + k * 2,none⟩ = some (.int .i64 p1)∧v.cell? ⟨b1,o1 + k * 2 + 1,none⟩ = some (.int .i64 p2)∧v.cell? ⟨b2,o2 + k * 2,none⟩ = some (.int .i64 q1)∧v.cell? ⟨b2,o2 + k * 2 + 1,none⟩ = some (.int .i64 q2)) ⟨hbb,x0,x1,y0,y1⟩ (fun V hS => ?_);clear hbb x0 x1 y0 y1;obtain ⟨hbb,x0,x1,y0,y1⟩:=hS
     by_cases he : (p1,p2) = (q1,q2)
     ·simp only [Prod.mk.injEq] at he
      obtain ⟨rfl,rfl⟩:=he;refine wp_region_noPanic ?_;refine wp_region_held_drew (S:=(Below V.heap.size V)) (by kernel_rfl) ((Below.refl _ _).drew) (fun hHeld => ?_);refine at_anyH (Below V.heap.size V) hHeld (fun wa0 hNew => ?_);clear hHeld;have hHeld:=hNew;clear hNew;refine tkd 0 ?_;refine tkd 1 ?_;refine tkd 2 ?_;(try simp only [PPz]);refine tkm 3 rfl hHeld (fun w hSw => by have kx0:=keepC hSw x0;have kx1:=keepC hSw x1;have ky0:=keepC hSw y0;have ky1:=keepC hSw y1;go_simp <;> with_reducible rfl) ?_;(try simp only [PPz]);refine tkd 4 ?_;refine tkd 5 ?_;refine tkd 6 ?_;(try simp only [PPz]);refine tkm 7 rfl hHeld (fun w hSw => by have kx0:=keepC hSw x0;have kx1:=keepC hSw x1;have ky0:=keepC hSw y0;have ky1:=keepC hSw y1;go_simp <;> with_reducible rfl) ?_;(try simp only [PPz]);refine tkd 8 ?_;(try simp only [PPz]);refine wpAnyH_done (by kernel_rfl) ?_ _;refine NoPanic.normal ?_
      skip
      replace hbb:=keepB hbb hHeld;clear hHeld x0 x1 y0 y1;(go_wp2_with fail)
      go_roundw
      case rel => exact ⟨k + 1,by omega,by go_num,hbb,fun j hj => by
       by_cases e : j = k
       ·rw [e,HP.out,HQ.out]
       ·exact HE.out j (by omega)⟩
      case measure => (simp [intOf] <;> omega)
     ·have hdf:=HD2.out k hlt (by rw [HP.out,HQ.out];exact he)
      have HDF:=Lib.hid hdf;clear hdf
      simp only [Prod.mk.injEq,not_and] at he
      refine wp_region_noPanic ?_;refine wp_region_held_drew (S:=(Below V.heap.size V)) (by kernel_rfl) ((Below.refl _ _).drew) (fun hHeld => ?_);refine at_anyH (Below V.heap.size V) hHeld (fun wb0 hNew => ?_);clear hHeld;have hHeld:=hNew;clear hNew;refine tkd 0 ?_;refine tkd 1 ?_;refine tkd 2 ?_;(try simp only [PPz]);refine tkm 3 rfl hHeld (fun w hSw => by have kx0:=keepC hSw x0;have kx1:=keepC hSw x1;have ky0:=keepC hSw y0;have ky1:=keepC hSw y1;go_simp <;> with_reducible rfl) ?_;(try simp only [PPz]);refine tkd 4 ?_;refine tkd 5 ?_;refine tkd 6 ?_;(try simp only [PPz]);refine tkm 7 rfl hHeld (fun w hSw => by have kx0:=keepC hSw x0;have kx1:=keepC hSw x1;have ky0:=keepC hSw y0;have ky1:=keepC hSw y1;go_simp <;> with_reducible rfl) ?_;(try simp only [PPz]);refine tkn 8 (.bool true) rfl ?_ hHeld ?_
      ·intro w hSw
       have kx0:=keepC hSw x0;have kx1:=keepC hSw x1;have ky0:=keepC hSw y0;have ky1:=keepC hSw y1;go_simp
       first | done | exact he | simpa using he | omega
      (try simp only [PPz]);refine wpAnyH_done (by kernel_rfl) ?_ _;refine NoPanic.normal ?_
      skip
      replace hbb:=keepB hbb hHeld;clear hHeld x0 x1 y0 y1;(go_wp2_with fail)
      go_ret
      exact ⟨by rw [HDF.out];rfl,hbb⟩
    ·obtain rfl : k = n:=by omega
     have i1 : ¬ (k : Int) < (k : Int):=by omega
     have HDF:=Lib.hid (HD1.out k (Nat.le_refl _) HE.out rfl);(go_wp2_with fail)
     go_ret
     exact ⟨by rw [HDF.out];rfl,hbb⟩
 ·rw [decide_eq_false (fun e => hn (by rw [e]))]
  obtain ⟨n,hnn⟩ : ∃ z,l.length = z:=⟨_,rfl⟩;obtain ⟨k,hk⟩ : ∃ z,m.length = z:=⟨_,rfl⟩;rw [hnn,hk] at hn ⊢
  have e1 : ((n : Int) == (k : Int)) = false:=by simp;omega
  have e2 : ((n : Int) != (k : Int)) = true:=by simp;omega
  clear ha hb hnn hk hl
  go_enter Tryz.func72,Tryz.ntmps72
  go_wp2_with fail
  go_ret
  exact ⟨rfl,Below.refl _ _⟩
theorem pfeqf_any (A B : Option Addr) (ca cb : Nat) (ws vs : List Pf.RwR) (w : World) (ha : IsWs w A ws) (hb : IsWs w B vs) (hl : ∀ k,k < ws.length → (Pf.rat ws k).l.length ≤ 1000) (hm : ws.length ≤ 1000) (hE : ∀ (x y : Value) (v : World),Sem.run Tryz.prog (callFunc 72 #[x,y]) v = .ok (.enter 72 #[x,y]) v) :
 Calls Tryz.prog 71 #[.slice A ws.length ca,.slice B vs.length cb,.func (.func 72) #[] #[]] w fun e w' => e = .returned (.bool (decide (ws.map Pf.RwR.l = vs.map Pf.RwR.l)))∧Below w.heap.size w w':=by
 by_cases hn : ws.length = vs.length
 ·have hrow : ∀ (us : List Pf.RwR) k,k < us.length → (us.map Pf.RwR.l)[k]? = some (Pf.rat us k).l:=fun us k hk => by
   unfold Pf.rat
   simp [hk]
  have hdec : ∀ k,k ≤ ws.length → (∀ j,j < k → (Pf.rat ws j).l = (Pf.rat vs j).l) → k = ws.length → decide (ws.map Pf.RwR.l = vs.map Pf.RwR.l) = true:=fun k hk hj e => by
   refine decide_eq_true (List.ext_getElem? fun i => ?_)
   by_cases hi : i < ws.length
   ·rw [hrow ws i hi,hrow vs i (by omega),hj i (by omega)]
   ·rw [List.getElem?_eq_none (by simp;omega),List.getElem?_eq_none (by simp;omega)]
  have hdec2 : ∀ k,k < ws.length → (Pf.rat ws k).l ≠ (Pf.rat vs k).l → decide (ws.map Pf.RwR.l = vs.map Pf.RwR.l) = false:=fun k hk hne => decide_eq_false fun e => hne (by
   have h1:=hrow ws k hk;rw [e,hrow vs k (by omega)] at h1
   injection h1 with h1
   exact h1.symm)
  have eq : ∀ k,k < ws.length → ∀ v,Below w.heap.size w v → _:=fun k hk v hv => pfeq_any (Pf.rat ws k).A (Pf.rat vs k).A (Pf.rat ws k).cap (Pf.rat vs k).cap (Pf.rat ws k).l (Pf.rat vs k).l v ((ha.all k hk).keep hv) ((hb.all k (by omega)).keep hv) (hl k hk)
  obtain ⟨⟨b1,o1,hA,h1⟩,-⟩:=ha;obtain ⟨⟨b2,o2,hB,h2⟩,-⟩:=hb;obtain ⟨D,hD⟩ : ∃ z,decide (ws.map Pf.RwR.l = vs.map Pf.RwR.l) = z:=⟨_,rfl⟩;rw [hD] at hdec hdec2 ⊢;rw [← hn] at h2 hB ⊢;obtain ⟨n,hnn⟩ : ∃ z,ws.length = z:=⟨_,rfl⟩;rw [hnn] at hA hB h1 h2 eq hm hdec hdec2 ⊢;have H1:=Lib.hid h1;have H2:=Lib.hid h2;have HD1:=Lib.hid hdec;have HD2:=Lib.hid hdec2;have EQQ:=Lib.hid eq;have HA:=Lib.hid hA;have HB:=Lib.hid hB;clear h1 h2 hdec hdec2 hD hn hnn eq hl hrow hA hB
  go_enter Tryz.func71,Tryz.ntmps71
  have e0 : ((n : Int) != (n : Int)) = false:=by simp
  go_wp2_with fail
  go_loopw [17] (fun i v => ∃ k : Nat,k ≤ n∧i = .int .i64 (k : Nat)∧Below w.heap.size w v∧(∀ j,j < k → (Pf.rat ws j).l = (Pf.rat vs j).l)) (fun i _ => n - (intOf i).toNat)
  case atStart => exact ⟨0,Nat.zero_le _,rfl,Below.refl _ _,fun j hj => absurd hj (by omega)⟩
  case round =>
   obtain ⟨k,hk,rfl,hbb,heq⟩:=hrel;have HE:=Lib.hid heq;clear heq
   by_cases hlt : k < n
   ·have i1 : (k : Int) < (n : Int):=by omega
    have i2 : (0 : Int) ≤ (k : Int):=by omega
    obtain rfl:=HA.out (by omega);obtain rfl:=HB.out (by omega);have x0:=keepC hbb (H1.out k hlt);have y0:=keepC hbb (H2.out k hlt);have eqk:=EQQ.out k hlt;have hd2:=HD2.out k hlt;have hek:=HE.out
    have hstep : ∀ (_ : (Pf.rat ws k).l = (Pf.rat vs k).l) j,j < k + 1 → (Pf.rat ws j).l = (Pf.rat vs j).l:=fun h j hj => by
     by_cases e : j = k
     ·rw [e];exact h
     ·exact hek j (by omega)
    have hE1:=hE (.slice (Pf.rat ws k).A (Pf.rat ws k).l.length (Pf.rat ws k).cap) (.slice (Pf.rat vs k).A (Pf.rat vs k).l.length (Pf.rat vs k).cap)
    by_cases he : (Pf.rat ws k).l = (Pf.rat vs k).l
    ·rw [decide_eq_true he] at eqk
     have HST:=Lib.hid (hstep he);have EQ1:=Lib.hid eqk;clear hstep eqk hd2 hek he
     generalize Pf.rat ws k = x at *
     generalize Pf.rat vs k = y at *
     obtain ⟨xA,xc,xl⟩:=x;obtain ⟨yA,yc,yl⟩:=y
     dsimp only at *
     generalize xl.length = lx at *
     generalize yl.length = ly at *
     (go_wp2_with fail);refine (EQ1.out _ hbb).mono ?_;rintro e w3 ⟨rfl,hb⟩;replace hbb:=keepB hbb hb;clear hb x0 y0 hE1;(go_wp2_with fail)
     go_roundw
     case rel => exact ⟨k + 1,by omega,by go_num,hbb,HST.out⟩
     case measure => (simp [intOf] <;> omega)
    ·have HDF:=Lib.hid (hd2 he)
     rw [decide_eq_false he] at eqk;have EQ1:=Lib.hid eqk;clear hstep eqk hd2 hek he
     generalize Pf.rat ws k = x at *
     generalize Pf.rat vs k = y at *
     obtain ⟨xA,xc,xl⟩:=x;obtain ⟨yA,yc,yl⟩:=y
     dsimp only at *
     generalize xl.length = lx at *
     generalize yl.length = ly at *
     (go_wp2_with fail);refine (EQ1.out _ hbb).mono ?_;rintro e w3 ⟨rfl,hb⟩;replace hbb:=keepB hbb hb;clear hb x0 y0 hE1;(go_wp2_with fail)
     go_ret
     exact ⟨by rw [HDF.out];rfl,hbb⟩
   ·obtain rfl : k = n:=by omega
    have i1 : ¬ (k : Int) < (k : Int):=by omega
    have HDF:=Lib.hid (HD1.out k (Nat.le_refl _) HE.out rfl);(go_wp2_with fail)
    go_ret
    exact ⟨by rw [HDF.out];rfl,hbb⟩
 ·rw [decide_eq_false (fun e => hn (by have:=congrArg List.length e;simpa using this))]
  obtain ⟨n,hnn⟩ : ∃ z,ws.length = z:=⟨_,rfl⟩;obtain ⟨k,hk⟩ : ∃ z,vs.length = z:=⟨_,rfl⟩;rw [hnn,hk] at hn ⊢
  have e1 : ((n : Int) == (k : Int)) = false:=by simp;omega
  have e2 : ((n : Int) != (k : Int)) = true:=by simp;omega
  clear ha hb hnn hk hl hm
  go_enter Tryz.func71,Tryz.ntmps71
  go_wp2_with fail
  go_ret
  exact ⟨rfl,Below.refl _ _⟩
end Go.Proofs.YtogmfebphiglaaaGreat


