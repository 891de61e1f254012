/- Package knife: whole, compare, less, end, share, everybody. A region that draws its order, reads and calls first, and then stores into what it has read. slices.Sort of a few agents. -/
import Derived.Test.YtogmfebphiglaaaGreatM24
import Derived.Deep.CutBlock
import Derived.Deep.DeepCutAuto
import Derived.StillTail
set_option linter.unusedSimpArgs false
set_option maxHeartbeats 8000000
set_option maxRecDepth 100000
namespace Go.Proofs.YtogmfebphiglaaaGreat
open Go.RowKit
theorem knwhole_any (n : Int) (w : World) : Calls Tryz.prog 62 #[.int .i64 n] w fun e w' => e = .returned (.agg #[.int .i64 n,.int .i64 1])∧Below w.heap.size w w':=by
 go_enter Tryz.func62,Tryz.ntmps62
 go_wp2
 exact bodyPost_ret (v:=.agg #[.int .i64 n,.int .i64 1]) (by simp [results,Tryz.results62,go_sem]) rfl ⟨rfl,(Below.refl _ _).alloc (Nat.le_refl _) _⟩
theorem kncompare_any (n d m c : Int) (h : Rp.Ok n d) (k : Rp.Ok m c) (w : World) :
 Calls Tryz.prog 121 #[.agg #[.int .i64 n,.int .i64 d],.agg #[.int .i64 m,.int .i64 c]] w fun e w' => e = .returned (.int .i64 (Rp.cmpQ (Rp.q n d) (Rp.q m c)))∧Below w.heap.size w w':=by
 have h':=h;have k':=k;obtain ⟨h1,h2,h3,h4,_⟩:=h';obtain ⟨k1,k2,k3,k4,_⟩:=k'
 have cc:=fun w => Cmp_any n d m c w (by omega) (by omega) (by omega) (by omega) (by omega) (by omega) (by omega) (by omega)
 rw [Rp.cmpS_ok h k] at cc
 generalize Rp.cmpQ (Rp.q n d) (Rp.q m c) = R at *
 have CC:=Lib.hid cc;clear cc h k
 go_enter Tryz.func121,Tryz.ntmps121
 (go_wp2_with fail);refine (CC.out _).mono ?_;rintro e w1 ⟨rfl,hb1⟩;have hbb : Below w.heap.size w w1:=keepB (((Below.refl _ _).alloc (Nat.le_refl _) _).alloc (by simp) _) hb1;clear hb1 CC
 go_wp2
 go_ret
 exact ⟨rfl,hbb⟩
theorem knless_any (n d m c : Int) (h : Rp.Ok n d) (k : Rp.Ok m c) (w : World) :
 Calls Tryz.prog 107 #[.agg #[.int .i64 n,.int .i64 d],.agg #[.int .i64 m,.int .i64 c]] w fun e w' => e = .returned (.bool (decide (Rp.q n d < Rp.q m c)))∧Below w.heap.size w w':=by
 have cc:=fun w => kncompare_any n d m c h k w
 have HD:=Lib.hid (Rp.cmpQ_neg (Rp.q n d) (Rp.q m c))
 generalize Rp.cmpQ (Rp.q n d) (Rp.q m c) = R at *
 have CC:=Lib.hid cc;clear cc h k
 go_enter Tryz.func107,Tryz.ntmps107
 (go_wp2_with fail);refine (CC.out _).mono ?_;rintro e w1 ⟨rfl,hb1⟩;have hbb : Below w.heap.size w w1:=keepB (((Below.refl _ _).alloc (Nat.le_refl _) _).alloc (by simp) _) hb1;clear hb1 CC
 go_wp2
 go_ret
 exact ⟨by rw [← HD.out];rfl,hbb⟩
theorem knend_any (A : Option Addr) (ca : Nat) (cs : List CkR) (Q : Option Addr) (m cq : Nat) (len : Int) (w : World) (h : IsCs w A cs) (h0 : 0 < cs.length) (hl : (Ak.cat cs 0).len = len) :
 Calls Tryz.prog 104 #[.agg #[.slice A cs.length ca,.slice Q m cq]] w fun e w' => e = .returned (.agg #[.int .i64 len,.int .i64 1])∧Below w.heap.size w w':=by
 obtain ⟨bb,o,hA,hcl⟩:=h.at_;obtain rfl:=hA h0;have hc0:=(hcl 0 h0).1;rw [hl,show o + 0 * 3 = o by omega] at hc0
 have wh:=fun v => knwhole_any len v
 have WHH:=Lib.hid wh
 have i1 : (0 : Int) < (cs.length : Int):=by omega
 clear hcl hA h hl wh
 go_enter Tryz.func104,Tryz.ntmps104
 go_upto_region 1 with fail
 refine at_box2 (fun V hbb B0 B1 hVs => ?_);have p0:=B0.c 0 rfl;have c0:=keepC hbb hc0;(go_wp2_with fail);refine (WHH.out _).mono ?_;rintro e w1 ⟨rfl,hb⟩;replace hbb:=keepB hbb hb;replace B1:=B1.keep hb;clear hb c0 p0 B0;have r0:=B1.c 0 rfl;have r1:=B1.c 1 rfl;have g0:=B1.f 0 rfl;have g1:=B1.f 1 rfl;(go_wp2_with fail);exact bodyPost_ret (v:=.agg #[.int .i64 len,.int .i64 1]) (by simp [results,Tryz.results104,go_sem,r0,r1]) rfl ⟨rfl,below_set (below_set hbb (by omega) _) (by omega) _⟩
theorem knshare_any (A : Option Addr) (ca : Nat) (cs : List CkR) (Q : Option Addr) (m cq k : Nat) (n : Int) (w : World) (h : IsCs w A cs) (hm : m ≤ maxLen) (hc : Ak.chkS (cs.map Ak.dat) m = 0) (hk : k < cs.length) (hn : n = (cs.length : Nat)) :
 Calls Tryz.prog 106 #[.agg #[.slice A cs.length ca,.slice Q m cq],.int .i64 k] w fun e w' => e = .returned (.agg #[.int .i64 (Ch.sh n (Ak.dAt (cs.map Ak.dat) k)).1,.int .i64 (Ch.sh n (Ak.dAt (cs.map Ak.dat) k)).2.1])∧Below w.heap.size w w':=by
 have hgd:=Ak.chkS_good hc;have hl1:=hgd.l0;have hl6:=hgd.l1;rw [List.length_map] at hl1 hl6;have hck:=hgd.all (Ak.dat (Ak.cat cs k)) (List.mem_map_of_mem (Ak.cat_mem hk))
 have tot:=fun v (hv : Below w.heap.size w v) => askTotal_good A ca cs Q m cq k v (h.keep hv) hm hc hk
 rw [Ak.dAt_map cs hk]
 have ht : Ck.totS (Ak.cat cs k).len (Ak.cat cs k).cuts (Ak.cat cs k).dens = (Ck.tot (Ak.cat cs k).cuts (Ak.cat cs k).dens (Ak.cat cs k).dens.length,0):=by
  unfold Ck.totS
  rw [if_pos (show Ck.chk (Ak.cat cs k).len (Ak.cat cs k).cuts (Ak.cat cs k).dens = 0 from hck)]
 rw [ht] at tot;have hG:=Ck.chk_good (show Ck.chk _ _ _ = 0 from hck);have t0:=(Ck.tot_bd hG _ (Nat.le_refl _)).1;have t1:=(Ck.tot_bd hG _ (Nat.le_refl _)).2;have l1:=hG.len1;have la:=hG.last;have hf : Ch.sh n (Ak.dat (Ak.cat cs k)) = Rp.makeS (Ck.tot (Ak.cat cs k).cuts (Ak.cat cs k).dens (Ak.cat cs k).dens.length) n:=rfl
 dsimp only [Ak.dat] at l1 la t0 t1
 dsimp only at tot;rw [hf]
 have t2 : Ck.tot (Ak.cat cs k).cuts (Ak.cat cs k).dens (Ak.cat cs k).dens.length ≤ 12000:=by omega
 clear hf ht la l1 t1 hG hck hgd
 generalize Ck.tot (Ak.cat cs k).cuts (Ak.cat cs k).dens (Ak.cat cs k).dens.length = T at *
 have mk:=fun v => Make_any T n (by omega) (by omega) (by omega) (by omega) v
 generalize Rp.makeS T n = M at *
 obtain ⟨M1,M2,M3⟩:=M;dsimp only at mk ⊢;obtain ⟨nc,hnc⟩ : ∃ z,cs.length = z:=⟨_,rfl⟩;rw [hnc] at tot hn ⊢;subst hn;have TOT:=Lib.hid tot;have MK:=Lib.hid mk;clear tot mk h hm hc hk t0 t2 hnc hl1 hl6
 go_enter Tryz.func106,Tryz.ntmps106
 go_upto_region 1 with fail
 refine at_box2 (fun V hbb B0 B1 hVs => ?_);have p0:=B0.c 0 rfl;have p1:=B0.c 1 rfl;(go_wp2_with fail);refine (TOT.out _ hbb).mono ?_;rintro e w1 ⟨rfl,hb⟩;clear p0 p1;replace hbb:=keepB hbb hb;replace B0:=B0.keep hb;replace B1:=B1.keep hb;clear hb;have p0:=B0.c 0 rfl;(go_wp2_with fail);refine (MK.out _).mono ?_;rintro e w2 ⟨rfl,hb⟩;clear p0;replace hbb:=keepB hbb hb;replace B1:=B1.keep hb;clear hb B0
 go_upto_region 3 with fail
 refine at_worldQ (fun v => Below w.heap.size w v∧BK v (w.heap.size + 1) [.int .i64 0,.int .i64 0]∧BK v w2.heap.size [.int .i64 M1,.int .i64 M2]) ⟨below_al hbb _,B1.al _,BK.new _ _ _⟩ (fun V3 hS => ?_);have hw2:=hbb.size;clear hbb B1;obtain ⟨hbb,B1,B2⟩:=hS;have a0:=B2.c 0 rfl;have a1:=B2.c 1 rfl;have r0:=B1.c 0 rfl;have r1:=B1.c 1 rfl;have g0:=B1.f 0 rfl;have g1:=B1.f 1 rfl;(go_wp2_with fail);exact bodyPost_ret (v:=.agg #[.int .i64 M1,.int .i64 M2]) (by simp [results,Tryz.results106,go_sem,r0,r1]) rfl ⟨rfl,by repeat (first | exact hbb | refine below_set ?_ (by omega) _)⟩
theorem knbk_rown {w : World} {B n : Nat} {e : TypeId} {v : Value} {xs : List Value} (h : w.ownsRow B e 1 v n xs) (hn : 0 < n) : ∃ g cap,v = .slice (some ⟨g,0,none⟩) n cap∧B ≤ g∧n ≤ cap∧BK w g xs:=by
 rcases h.2 with ⟨_,h0⟩ | ⟨g,cap,cur,hv,hb,hg,hc,_,hs,ht⟩
 ·omega
 ·have hlt : g < w.heap.size:=(Array.getElem?_eq_some_iff.1 hg).1
  refine ⟨g,cap,hv,hb,hc,hlt,fun j x ej => ?_⟩;rw [← ht] at ej
  have hj : cur[j]? = some x:=by
   rw [List.getElem?_take] at ej
   split at ej
   ·simpa using ej
   ·cases ej
  constructor
  ·simp [World.cell?,hg,hj]
  ·simp [World.frozen?,hg]
/-- The numbers of the first agents. -/
def Kn.rng (k : Nat) : List Int:=(List.range k).map fun (j : Nat) => (j : Int)
theorem Kn.rng_len (k : Nat) : (Kn.rng k).length = k:=by unfold Kn.rng;simp
theorem Kn.rng_succ (k : Nat) : Kn.rng (k + 1) = Kn.rng k ++ [(k : Int)]:=by unfold Kn.rng;rw [List.range_succ,List.map_append];rfl
theorem knevery_any (A : Option Addr) (n ca : Nat) (Q : Option Addr) (m cq : Nat) (w : World) (h1 : 1 ≤ n) (h6 : n ≤ 6) :
 Calls Tryz.prog 63 #[.agg #[.slice A n ca,.slice Q m cq]] w fun e w' => ∃ g cap : Nat,e = .returned (.slice (some ⟨g,0,none⟩) n cap)∧w.heap.size ≤ g∧n ≤ cap∧BK w' g ((Kn.rng n).map (Value.int .i64))∧Below w.heap.size w w':=by
 obtain ⟨i0,hi0,hz0,hz1,hz2⟩:=info_parts intInfo;have HI:=Lib.hid hi0;have HI2:=Lib.hid hz0;have HI3:=Lib.hid hz1;have HI4:=Lib.hid hz2;clear hi0 hz0 hz1 hz2
 go_enter Tryz.func63,Tryz.ntmps63
 go_upto_region 1 with fail
 refine at_box1 (fun V hbb B0 hVs => ?_);have p0:=B0.c 0 rfl;(go_wp2_with fail);clear p0
 go_loopw [3,8] (fun s i W => ∃ k : Nat,k ≤ n∧i = .int .i64 k∧Own W (w.heap.size + 1) s (Kn.rng k)∧Below w.heap.size w W∧w.heap.size + 1 ≤ W.heap.size) (fun _ i _ => n - (intOf i).toNat)
 case atStart => exact ⟨0,Nat.zero_le _,rfl,Own.nil_ _ _,hbb,by omega⟩
 case round =>
  clear hbb B0 hVs;obtain ⟨k,hk,rfl,hO,hbb,hws⟩:=hrel
  by_cases hlt : k < n
  ·have i2 : (k : Int) < (n : Int):=by omega
   have HT:=Lib.hid (Kn.rng_succ k);have HL:=Lib.hid (Kn.rng_len k);obtain ⟨T,hT⟩ : ∃ T,Kn.rng k = T:=⟨_,rfl⟩;rw [hT] at hO;have HT2:=Lib.hid hT
   have hnT : T.length = k:=by rw [← hT];exact Kn.rng_len k
   obtain ⟨nE,hE'⟩ : ∃ z,T.length = z:=⟨_,rfl⟩;have hE:=Lib.hid hE'
   have hk6 : nE ≤ 6:=by omega
   unfold Own at hO
   rw [hE'] at hO;clear hT hnT hE'
   go_wp2_with (at_builtin;refine wpList_append_lies _ rfl _ _ _ rfl (w.heap.size + 1) 3 i0 _ 1 8 Tryz.underlying22 HI.out HI2.out HI3.out HI4.out rfl (by omega) _ nE (T.map (Value.int .i64)) (by rfl) (World.ownsRow.alloc hO _) ⟨wr.heap.size,0,none⟩ 1 1 [.int .i64 (k : Int)] (by rfl) (by rfl) (World.news_of_block (cs:=#[.int .i64 (k : Int)]) (t:=3) (fr:=(0,0)) (heap_alloc_new wr _)) (by simp [Value.oneCell']) (by omega) (by unfold maxLen;omega) (by omega) (by simp;omega) (wr.heap.size + 1) (by simp) ?_;intro g cap w1 hown1 hgrow hat hglt)
   all_goals
    (try go_wp2_with fail)
    go_roundw
    case rel =>
     refine ⟨k + 1,by omega,by go_num,?_,?_,?_⟩
     ·rw [HT.out,HT2.out]
      unfold Own
      rw [List.length_append,hE.out,List.map_append];exact hown1
     ·exact (below_al hbb _).grown hgrow (by simp;omega) (fun j ej => by
       have:=(World.ownsRow.lt hO j ej).1
       omega)
     ·have:=hgrow.size
      simp at this
      omega
    case measure => (simp [intOf] <;> omega)
  ·obtain rfl : k = n:=by omega
   unfold Own at hO
   rw [Kn.rng_len] at hO;obtain ⟨g,cap,rfl,hg,hcap,hB⟩:=knbk_rown hO (by omega)
   have i2 : ¬ (k : Int) < (k : Int):=by omega
   have HB:=Lib.hid hB;clear hO hB HI HI2 HI3 HI4;(go_wp2_with fail)
   go_ret
   exact ⟨g,cap,rfl,by omega,hcap,HB.out,hbb⟩
end Go.Proofs.YtogmfebphiglaaaGreat


namespace Go.Proofs.YtogmfebphiglaaaGreat
section
variable {P : Program} {ops : Array Oper} {Q : Exit → Act → World → Prop} {md : Region.Mode} {S T : World → Prop} {s : Nat}
/-- Whatever comes up next: S holds behind it, as long as number s has not come up; T from there on. -/
def ordU (P : Program) (md : Region.Mode) (ops : Array Oper) (Q : Exit → Act → World → Prop) (S T : World → Prop) (s : Nat) : Nat → Array Bool → Act → World → Prop
 | 0,l,a,w => Region.ready md ops l = []∧Q .normal a w
 | n + 1,l,a,w => (Region.ready md ops l = [] → Q .normal a w) ∧
  ∀ i ∈ Region.ready md ops l,wpOp P ops Q i (fun b u => (i = s → T u∧wpAnyH P md ops Q T n (l.setIfInBounds i true) b u)∧(i ≠ s → S u∧ordU P md ops Q S T s n (l.setIfInBounds i true) b u)) a w
theorem ordU_any : ∀ (n : Nat) (l : Array Bool) (a : Act) (w : World),ordU P md ops Q S T s n l a w → wpAny P md ops Q n l a w
 | 0,_,_,_,h => h
 | n + 1,l,a,w,h => ⟨h.1,fun i hi => wpOp_mono (fun b u k => by
  by_cases e : i = s
  ·exact wpAny_of_held _ _ _ _ (k.1 e).2
  ·exact ordU_any n _ _ _ (k.2 e).2) (h.2 i hi)⟩
/-- Taken first: what yields the same in each world of S, if number s waits for it. -/
theorem ordU_first {i : Nat} {o : Oper} {v : Value} (hi : ops[i]? = some o) (hns : Region.noSelect ops = true) (hQ : ∀ c a w,Q (.panic c) (a.put o.dst v) w → Q (.panic c) a w) (hws : Region.waitsFor md ops s i = true) :
 ∀ (n : Nat) (l : Array Bool) (a : Act) (w : World),(∀ j p,ops[j]? = some p → j ≠ i → l.getD j true = false → (∀ e ∈ p.after,Region.binds md e = true → e.on ≠ i) → o.apart ops p = true) →
  i ∈ Region.ready md ops l → YieldsIf P ops S o v a → S w → ordU P md ops Q S T s n (l.setIfInBounds i true) (a.put o.dst v) w → ordU P md ops Q S T s (n + 1) l a w:=by
 have sel:=Region.noSelect_spec hns;obtain ⟨os,hos,x,hx,hxb,hxi⟩:=Region.waitsFor_spec hws
 have un : ∀ l : Array Bool,i ∈ Region.ready md ops l → l.getD i false = false:=fun l hr => by
  have h0:=(mem_ready.1 hr).1
  rcases Nat.lt_or_ge i l.size with k | k
  ·simp [k] at h0 ⊢
   exact h0
  ·simp [Array.getElem?_eq_none k]
 have his : ∀ l : Array Bool,i ∈ Region.ready md ops l → ∀ j ∈ Region.ready md ops l,j ≠ s:=fun l hr j hj e => by
  subst e;obtain ⟨_,p,hp,hall⟩:=mem_ready.1 hj;rw [hos] at hp
  cases hp
  have:=hall x hx hxb;rw [hxi,un l hr] at this
  cases this
 intro n
 induction n with
 | zero =>
  intro l a w _ hr hy hS H;refine ⟨fun h => (by rw [h] at hr;cases hr),fun j hj => ?_⟩
  by_cases e : j = i
  ·subst e
   exact hy.wpOp hi hS ⟨fun e => absurd e (his l hr j hr),fun _ => ⟨hS,H⟩⟩
  ·have:=ready_mono hj e
   rw [H.1] at this
   cases this
 | succ n ih =>
  intro l a w hfree hr hy hS H;refine ⟨fun h => (by rw [h] at hr;cases hr),fun j hj => ?_⟩;have hjs:=his l hr j hj
  by_cases e : j = i
  ·subst e
   exact hy.wpOp hi hS ⟨fun e => absurd e hjs,fun _ => ⟨hS,H⟩⟩
  ·have h1:=wpOp_mono (fun b u k => k.2 hjs) (H.2 j (ready_mono hj e))
   obtain ⟨hju,p,hp,hall⟩:=mem_ready.1 hj
   have hno : ∀ y ∈ p.after,Region.binds md y = true → y.on ≠ i:=fun y hy' hb he => by
    have:=hall y hy' hb;rw [he,un l hr] at this
    cases this
   have h2:=wpOp_putIf hp (hfree j p hp e hju hno) (fun cs b => sel i o cs b hi) (fun cs b => sel j p cs b hp) hQ hy h1;refine wpOp_mono (fun b u h3 => ⟨fun e => absurd e hjs,fun _ => ⟨h3.2.1,ih (l.setIfInBounds j true) b u (fun k ok hk hki hun hn => ?_) (ready_mono hr (Ne.symm e)) h3.1 h3.2.1 ?_⟩⟩) h2
   ·refine hfree k ok hk hki ?_ hn
    by_cases hjk : j = k
    ·subst hjk
     exact hju
    ·rwa [getD_set_ne true hjk] at hun
   ·rw [Array.setIfInBounds_comm _ _ e]
    exact h3.2.2
theorem ordU_take {i : Nat} {o : Oper} {v : Value} {n : Nat} {l : Array Bool} {a : Act} {w : World} (hi : ops[i]? = some o) (hns : Region.noSelect ops = true) (hf : Region.free md ops l i = true) (hr : (Region.ready md ops l).contains i = true) (hws : Region.waitsFor md ops s i = true)
 (hQ : ∀ c a w,Q (.panic c) (a.put o.dst v) w → Q (.panic c) a w) (hy : YieldsIf P ops S o v a) (hS : S w) (h : ordU P md ops Q S T s n (l.setIfInBounds i true) (a.put o.dst v) w) : ordU P md ops Q S T s (n + 1) l a w :=
 ordU_first hi hns hQ hws n l a w (Region.free_spec hi hf) (by simpa using hr) hy hS h
/-- Taken first: what yields the same in each world of S and in each world of T. -/
theorem ordU_first2 {i : Nat} {o : Oper} {v : Value} (hi : ops[i]? = some o) (hns : Region.noSelect ops = true) (hQ : ∀ c a w,Q (.panic c) (a.put o.dst v) w → Q (.panic c) a w) (his : i ≠ s) :
 ∀ (n : Nat) (l : Array Bool) (a : Act) (w : World),(∀ j p,ops[j]? = some p → j ≠ i → l.getD j true = false → (∀ e ∈ p.after,Region.binds md e = true → e.on ≠ i) → o.apart ops p = true) →
  i ∈ Region.ready md ops l → YieldsIf P ops S o v a → YieldsIf P ops T o v a → S w → ordU P md ops Q S T s n (l.setIfInBounds i true) (a.put o.dst v) w → ordU P md ops Q S T s (n + 1) l a w:=by
 have sel:=Region.noSelect_spec hns
 have un : ∀ l : Array Bool,i ∈ Region.ready md ops l → l.getD i false = false:=fun l hr => by
  have h0:=(mem_ready.1 hr).1
  rcases Nat.lt_or_ge i l.size with k | k
  ·simp [k] at h0 ⊢
   exact h0
  ·simp [Array.getElem?_eq_none k]
 intro n
 induction n with
 | zero =>
  intro l a w _ hr hy _ hS H;refine ⟨fun h => (by rw [h] at hr;cases hr),fun j hj => ?_⟩
  by_cases e : j = i
  ·subst e
   exact hy.wpOp hi hS ⟨fun e => absurd e his,fun _ => ⟨hS,H⟩⟩
  ·have:=ready_mono hj e
   rw [H.1] at this
   cases this
 | succ n ih =>
  intro l a w hfree hr hy hz hS H;refine ⟨fun h => (by rw [h] at hr;cases hr),fun j hj => ?_⟩
  by_cases e : j = i
  ·subst e
   exact hy.wpOp hi hS ⟨fun e => absurd e his,fun _ => ⟨hS,H⟩⟩
  ·obtain ⟨hju,p,hp,hall⟩:=mem_ready.1 hj
   have hno : ∀ y ∈ p.after,Region.binds md y = true → y.on ≠ i:=fun y hy' hb he => by
    have:=hall y hy' hb;rw [he,un l hr] at this
    cases this
   have hfree2 : ∀ k ok,ops[k]? = some ok → k ≠ i → (l.setIfInBounds j true).getD k true = false → (∀ e ∈ ok.after,Region.binds md e = true → e.on ≠ i) → o.apart ops ok = true:=fun k ok hk hki hun hn => by
    refine hfree k ok hk hki ?_ hn
    by_cases hjk : j = k
    ·subst hjk
     exact hju
    ·rwa [getD_set_ne true hjk] at hun
   have hap:=hfree j p hp e hju hno;have h0:=H.2 j (ready_mono hj e)
   by_cases hjs : j = s
   ·have h1:=wpOp_mono (fun b u k => k.1 hjs) h0
    have h2:=wpOp_putIf hp hap (fun cs b => sel i o cs b hi) (fun cs b => sel j p cs b hp) hQ hz h1;refine wpOp_mono (fun b u h3 => ⟨fun _ => ⟨h3.2.1,wpAnyH_first hi sel hQ n _ _ _ hfree2 (ready_mono hr (Ne.symm e)) h3.1 h3.2.1 ?_⟩,fun k => absurd hjs k⟩) h2;rw [Array.setIfInBounds_comm _ _ e];exact h3.2.2
   ·have h1:=wpOp_mono (fun b u k => k.2 hjs) h0
    have h2:=wpOp_putIf (S:=fun u => S u ∨ T u) hp hap (fun cs b => sel i o cs b hi) (fun cs b => sel j p cs b hp) hQ
     (hy.elim (fun ⟨q1,q2⟩ => hz.elim (fun ⟨_,q3⟩ => .inl ⟨q1,fun w k => k.elim (q2 w) (q3 w)⟩) (fun ⟨q3,_⟩ => by rw [q1] at q3;cases q3)) (fun k => .inr k)) h1
    refine wpOp_mono (fun b u h3 => ⟨fun k => absurd k hjs,fun _ => ⟨h3.2.1,ih (l.setIfInBounds j true) b u hfree2 (ready_mono hr (Ne.symm e)) (h3.1.imp (fun ⟨q1,q2⟩ => ⟨q1,fun w k => q2 w (.inl k)⟩) id) (h3.1.imp (fun ⟨q1,q2⟩ => ⟨q1,fun w k => q2 w (.inr k)⟩) id) h3.2.1 ?_⟩⟩) h2;rw [Array.setIfInBounds_comm _ _ e];exact h3.2.2
theorem ordU_take2 {i : Nat} {o : Oper} {v : Value} {n : Nat} {l : Array Bool} {a : Act} {w : World} (hi : ops[i]? = some o) (hns : Region.noSelect ops = true) (hf : Region.free md ops l i = true) (hr : (Region.ready md ops l).contains i = true) (his : i ≠ s)
 (hQ : ∀ c a w,Q (.panic c) (a.put o.dst v) w → Q (.panic c) a w) (hy : YieldsIf P ops S o v a) (hz : YieldsIf P ops T o v a) (hS : S w) (h : ordU P md ops Q S T s n (l.setIfInBounds i true) (a.put o.dst v) w) : ordU P md ops Q S T s (n + 1) l a w :=
 ordU_first2 hi hns hQ his n l a w (Region.free_spec hi hf) (by simpa using hr) hy hz hS h
/-- Each of the operations comes up next. -/
def ReadyU (P : Program) (md : Region.Mode) (ops : Array Oper) (Q : Exit → Act → World → Prop) (S T : World → Prop) (s n : Nat) (l : Array Bool) (a : Act) (w : World) (rs : List Nat) : Prop :=
 ∀ i ∈ rs,wpOp P ops Q i (fun b u => (i = s → T u∧wpAnyH P md ops Q T n (l.setIfInBounds i true) b u)∧(i ≠ s → S u∧ordU P md ops Q S T s n (l.setIfInBounds i true) b u)) a w
theorem ReadyU.nil {n : Nat} {l : Array Bool} {a : Act} {w : World} : ReadyU P md ops Q S T s n l a w []:=fun _ h => by cases h
theorem ReadyU.cons {n i : Nat} {o : Oper} {rs : List Nat} {l : Array Bool} {a : Act} {w : World} (ho : ops[i]? = some o) (his : i ≠ s)
 (h : ∀ K : Act → World → Prop,Shut (∀ a w,S w → (S w → ordU P md ops Q S T s n (l.setIfInBounds i true) a w) → K a w) → if Region.wanted o (yielded ops a.tmps) = true then Oper.wp P o a w K Q else K (a.put o.dst undef) w)
 (hs : ReadyU P md ops Q S T s n l a w rs) : ReadyU P md ops Q S T s n l a w (i :: rs):=fun j hj => by
 rcases List.mem_cons.1 hj with rfl | hj
 ·exact wpOp_step ho (fun K hK => h K (fun a w hS hW => hK a w ⟨fun e => absurd e his,fun _ => ⟨hS,hW hS⟩⟩))
 ·exact hs j hj
theorem ordU_ready {rs : List Nat} {n : Nat} {l : Array Bool} {a : Act} {w : World} (hr : Region.ready md ops l = rs) (hne : rs ≠ []) (h : ReadyU P md ops Q S T s n l a w rs) : ordU P md ops Q S T s (n + 1) l a w :=
 ⟨fun h0 => absurd (hr ▸ h0) hne,hr ▸ h⟩
/-- Number s comes up: from here on T alone. -/
theorem ordU_at {n : Nat} {l : Array Bool} {a : Act} {w : World} (hr : Region.ready md ops l = [s]) (h : wpAnyH P md ops Q T (n + 1) l a w) : ordU P md ops Q S T s (n + 1) l a w:=by
 refine ⟨fun h0 => absurd (hr.symm.trans h0) (by simp),fun i hi => ?_⟩;have:=h.2 i hi;rw [hr] at hi
 obtain rfl : i = s:=by simpa using hi
 exact wpOp_mono (fun b u k => ⟨fun _ => k,fun e => absurd rfl e⟩) this
theorem at_ordU {n : Nat} {l : Array Bool} {a : Act} {w : World} (R : World → Prop) (h : R w) (k : ∀ V,R V → ordU P md ops Q S T s n l a V) : ordU P md ops Q S T s n l a w:=k w h
theorem region_ordU {id : Nat} {a : Act} {w : World} (T : World → Prop) (s : Nat) (hm : P.follows .mixedOrders = true) (hS : S w.drew)
 (h : S w.drew → ordU P .any ops Q S T s ops.size (Array.replicate ops.size false) a w.drew) : (Code.region id ops true).wp P Q a w :=
 wp_region_any hm (ordU_any _ _ _ _ (h hS))
end
end Go.Proofs.YtogmfebphiglaaaGreat


namespace Go.Proofs.YtogmfebphiglaaaGreat
open Go.RowKit
namespace Hi
def cells1 (L : List Nat) : List Value:=L.map fun a => .int .i64 (a : Nat)
end Hi
end Go.Proofs.YtogmfebphiglaaaGreat


