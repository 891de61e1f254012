/- Sets of points: what the sweep's piece has, when two pieces are the same, and that the sweep's piece is a piece. Divisions into one span for each agent, side by side: which claims hold. Plain mathematics. -/
import Derived.Test.YtogmfebphiglaaaGreatHq
namespace Go.Proofs.YtogmfebphiglaaaGreat
namespace Pc
theorem chg_mem {t : Rat → Bool} : ∀ {l : List Rat} {k : Bool} {r : Rat},r ∈ chg t l k → r ∈ l
 | [],_,_,h => by simp [chg] at h
 | p :: l,k,r,h => by
  unfold chg at h
  split at h
  ·exact List.mem_cons_of_mem _ (chg_mem h)
  ·rcases List.mem_cons.1 h with rfl | h
   ·simp
   ·exact List.mem_cons_of_mem _ (chg_mem h)
theorem inc_chg {t : Rat → Bool} : ∀ {l : List Rat} {k : Bool},Inc l → Inc (chg t l k)
 | [],_,_ => trivial
 | p :: l,k,h => by
  unfold chg
  split
  ·exact inc_chg h.2
  ·exact ⟨fun q hq => h.1 q (chg_mem hq),inc_chg h.2⟩
theorem par_swp (f : Bool → Bool → Bool) : ∀ (n : Nat) (a b : List Rat),a.length + b.length ≤ n → Inc a → Inc b → ∀ x y p,par (swp f a b x y (f x y)) (f x y) p = f (par a x p) (par b y p):=by
 intro n
 induction n with
 | zero => intro a b h _ _ x y p;have ha : a = []:=List.eq_nil_of_length_eq_zero (by omega);have hb : b = []:=List.eq_nil_of_length_eq_zero (by omega);subst ha hb;unfold swp;simp [par]
 | succ n ih =>
  intro a b h ha hb x y p
  by_cases kk : a = []∧b = []
  ·obtain ⟨rfl,rfl⟩:=kk;unfold swp;simp [par]
  ·have hh:=near_hit a b kk
   have h1:=off_len (near a b) a;have h2:=off_len (near a b) b
   have hl : (off (near a b) a).length + (off (near a b) b).length ≤ n:=by
    rcases hh with k | k
    ·have:=off_lt _ _ k;omega
    ·have:=off_lt _ _ k;omega
   have hn:=near_le ha hb;have IH:=ih _ _ hl (inc_off ha) (inc_off hb) (xor x (hit (near a b) a)) (xor y (hit (near a b) b)) p
   by_cases hp : near a b ≤ p
   ·have ea : par a x p = par (off (near a b) a) (xor x (hit (near a b) a)) p:=by
     rcases Rat.le_iff_lt_or_eq.1 hp with hlt | heq
     ·exact (par_off hlt x).symm
     ·rw [← heq,par_hit ha hn.1,par_far _ _ _ hn.1]
    have eb : par b y p = par (off (near a b) b) (xor y (hit (near a b) b)) p:=by
     rcases Rat.le_iff_lt_or_eq.1 hp with hlt | heq
     ·exact (par_off hlt y).symm
     ·rw [← heq,par_hit hb hn.2,par_far _ _ _ hn.2]
    rw [ea,eb,← IH]
    by_cases hk : f (xor x (hit (near a b) a)) (xor y (hit (near a b) b)) = f x y
    ·rw [swp_same kk hk,hk]
    ·have e : f (xor x (hit (near a b) a)) (xor y (hit (near a b) b)) = !(f x y):=by
      revert hk
      generalize f _ _ = z
      generalize f x y = v
      cases z <;> cases v <;> simp
     rw [swp_turn kk hk,par,if_pos hp,e]
   ·have hfa : par a x p = x:=by
     refine par_far a x p fun r hr => ?_
     cases a with
     | nil => simp at hr
     | cons q a =>
      have hq : near (q :: a) b ≤ q:=by
       cases b with
       | nil => simp [near]
       | cons s b => simp only [near];split <;> grind
      rcases List.mem_cons.1 hr with rfl | hr
      ·grind
      ·have:=ha.1 r hr;grind
    have hfb : par b y p = y:=by
     refine par_far b y p fun r hr => ?_
     cases b with
     | nil => simp at hr
     | cons q b =>
      have hq : near a (q :: b) ≤ q:=by
       cases a with
       | nil => simp [near]
       | cons s a => simp only [near];split <;> grind
      rcases List.mem_cons.1 hr with rfl | hr
      ·grind
      ·have:=hb.1 r hr;grind
    rw [hfa,hfb]
    refine par_far _ _ _ fun r hr => ?_
    rw [swp_chg f _ _ _ (Nat.le_refl _) ha hb] at hr;have hm:=chg_mem hr
    have : near a b ≤ r:=by
     unfold mrg at hm
     rw [dif_neg kk] at hm
     rcases List.mem_cons.1 hm with rfl | hm
     ·grind
     ·rw [mem_mrg _ _ _ hl] at hm
      rcases hm with hm | hm
      ·have:=hn.1 r hm;grind
      ·have:=hn.2 r hm;grind
    grind
theorem inc_swp (f : Bool → Bool → Bool) {a b : List Rat} (ha : Inc a) (hb : Inc b) (x y k : Bool) : Inc (swp f a b x y k):=by
 rw [swp_chg f _ _ _ (Nat.le_refl _) ha hb];exact inc_chg (inc_mrg _ _ _ (Nat.le_refl _) ha hb)
/-- Two pieces with the same points are the same. -/
theorem par_ext : ∀ {l m : List Rat} {x : Bool},Inc l → Inc m → (∀ p,par l x p = par m x p) → l = m
 | [],[],_,_,_,_ => rfl
 | [],q :: m,x,_,hm,h => by
  have:=h q;rw [par,par,if_pos (by grind),par_far m _ q hm.1] at this
  cases x <;> simp at this
 | q :: l,[],x,hl,_,h => by
  have:=h q;rw [par,par,if_pos (by grind),par_far l _ q hl.1] at this
  cases x <;> simp at this
 | p :: l,q :: m,x,hl,hm,h => by
  have e : p = q:=by
   have h1:=h p;have h2:=h q;rw [par,if_pos (by grind),par_far l _ p hl.1] at h1
   have e2 : par (q :: m) x q = !x:=by rw [par,if_pos (by grind),par_far m _ q hm.1]
   rw [e2] at h2
   by_cases a : q ≤ p
   ·by_cases b : p ≤ q
    ·grind
    ·rw [par,if_neg b] at h2
     cases x <;> simp at h2
   ·rw [par,if_neg a] at h1
    cases x <;> simp at h1
  subst e
  have : l = m:=par_ext (x:=!x) hl.2 hm.2 fun r => by
   by_cases hr : p ≤ r
   ·have:=h r
    rw [par,par,if_pos hr,if_pos hr] at this;exact this
   ·rw [par_far l _ r (fun s hs => by have:=hl.1 s hs;grind),par_far m _ r (fun s hs => by have:=hm.1 s hs;grind)]
  rw [this]
end Pc
end Go.Proofs.YtogmfebphiglaaaGreat
namespace Go.Proofs.YtogmfebphiglaaaGreat
open Go.RowKit
namespace Pf
open Ck Ch
/-- A part of a whole, with a denominator that is known. -/
theorem ofQ_part {D : Int} {x : Rat} (h : Dd D x) (d1 : 1 ≤ D) (d2 : D ≤ 1000000000000000000) (x0 : 0 ≤ x) (x1 : x ≤ 1) : (Rp.ofQ x).2.2 = 0:=by
 have key : x.num.natAbs ≤ 1000000000000000000∧((x.den : Nat) : Int).natAbs ≤ 1000000000000000000:=by
  obtain ⟨M,hM⟩:=h
  have h2 : ((x.den : Int) : Rat) ≠ 0:=by
   have h0:=Rat.intCast_lt_intCast.2 (show (0 : Int) < (x.den : Int) from Int.natCast_pos.2 x.den_pos);intro h;rw [h] at h0;exact absurd h0 (by decide)
  have e : x * ((x.den : Int) : Rat) = (x.num : Rat):=by
   have h1:=Rat.num_divInt_den x;rw [Rat.divInt_eq_div] at h1;have h3:=Rat.div_mul_cancel (a:=(x.num : Rat)) h2;rw [h1] at h3;exact h3
  have hi : x.num * D = M * (x.den : Int):=by
   rw [← Rat.intCast_inj,Rat.intCast_mul,Rat.intCast_mul,← hM,← e]
   grind
  have hd : x.den ∣ D.natAbs:=by
   refine Nat.Coprime.dvd_of_dvd_mul_left (Nat.Coprime.symm x.reduced) ?_;rw [← Int.natAbs_mul,hi,Int.natAbs_mul];exact Nat.dvd_mul_left _ _
  have hle:=Nat.le_of_dvd (by omega) hd;have hp : ((0 : Int) : Rat) ≤ ((x.den : Int) : Rat):=Rat.intCast_le_intCast.2 (Int.natCast_nonneg _);have g1:=Rat.mul_le_mul_of_nonneg_right x1 hp;have g0:=Rat.mul_le_mul_of_nonneg_right x0 hp;rw [e,Rat.one_mul,Rat.intCast_le_intCast] at g1;rw [e,Rat.zero_mul,show (0 : Rat) = ((0 : Int) : Rat) from rfl,Rat.intCast_le_intCast] at g0
  omega
 unfold Rp.ofQ Rp.low
 rw [if_pos key]
/-- Spans side by side have nothing in common. -/
theorem comB_side {s t : Rat × Rat} (hs : Pc.Good [s]) (ht : Pc.Good [t]) (h : s.2 ≤ t.1 ∨ t.2 ≤ s.1) : comB [s] [t] = false:=by
 have e : Pc.swp (fun x y => x && y) (Pc.ends [s]) (Pc.ends [t]) false false false = []:=by
  refine Pc.par_ext (x:=false) (Pc.inc_swp _ hs.inc ht.inc _ _ _) trivial (fun p => ?_);have hp:=Pc.par_swp (fun x y => x && y) _ (Pc.ends [s]) (Pc.ends [t]) (Nat.le_refl _) hs.inc ht.inc false false p;have h1:=Pc.inn_par [s] hs.inc p;have h2:=Pc.inn_par [t] ht.inc p;rw [show (false && false) = false from rfl] at hp;rw [hp,← h1,← h2]
  show ((Pc.inn [s] p) && (Pc.inn [t] p)) = false
  have q1 : Pc.inn [s] p = (!decide (p < s.1) && decide (p < s.2)):=by simp [Pc.inn]
  have q2 : Pc.inn [t] p = (!decide (p < t.1) && decide (p < t.2)):=by simp [Pc.inn]
  rw [q1,q2]
  rcases h with h | h
  ·by_cases g : p < s.2
   ·have : p < t.1:=by grind
    simp [this]
   ·simp [g]
  ·by_cases g : p < t.2
   ·have : p < s.1:=by grind
    simp [this]
   ·simp [g]
 unfold comB Pc.setS
 rw [Pc.chk_of_good hs,Pc.chk_of_good ht,Pc.map_toQ_raw,Pc.map_toQ_raw,e]
 rfl
/-- One span for each agent, side by side from 0 to the end, each of them worth a share for whoever has it. -/
structure LnF (D : List CkD) (ps : List PcR) (nn : Nat) (len : Int) (ag : Nat → Nat) (P : Nat → Rat) : Prop where
 ck : Ak.chkS D 0 = 0
 dl : D.length = nn
 ln : (Ak.dAt D 0).1 = len
 pl : ps.length = nn
 prm : ((List.range nn).map ag).Perm (List.range nn)
 L : ∀ k,k < nn → (pat ps (ag k)).L = [(P k,P (k + 1))]
 p0 : P 0 = 0
 pn : P nn = (len : Rat)
 inc : ∀ k,k < nn → P k < P (k + 1)
 fit : ∀ k,k ≤ nn → Pc.Fit (P k)
 dd : ∀ k,k < nn → ∃ E : Int,1 ≤ E∧E ≤ 18000000∧Dd E (P k)∧Dd E (P (k + 1))
 own : ∀ k,k < nn → shq (nn : Int) (Ak.dAt D (ag k)) ≤ cu (Ak.dAt D (ag k)) (P (k + 1)) - cu (Ak.dAt D (ag k)) (P k)
section
variable {D : List CkD} {ps : List PcR} {nn : Nat} {len : Int} {ag : Nat → Nat} {P : Nat → Rat}
theorem LnF.surj (h : LnF D ps nn len ag P) {j : Nat} (hj : j < nn) : ∃ k,k < nn∧ag k = j:=by
 obtain ⟨k,hk,e⟩:=List.mem_map.1 (h.prm.mem_iff.2 (List.mem_range.2 hj));exact ⟨k,List.mem_range.1 hk,e⟩
theorem LnF.mono (h : LnF D ps nn len ag P) {i : Nat} : ∀ {k : Nat},i ≤ k → k ≤ nn → P i ≤ P k
 | 0,hi,_ => by obtain rfl : i = 0:=by omega
                exact Rat.le_refl
 | k + 1,hi,hk => by
  by_cases e : i = k + 1
  ·rw [e];exact Rat.le_refl
  ·exact Rat.le_trans (h.mono (k:=k) (by omega) (by omega)) (Rat.le_of_lt (h.inc k (by omega)))
theorem LnF.pt (h : LnF D ps nn len ag P) {k : Nat} (hk : k ≤ nn) : Ck.pt len (P k).num ((P k).den : Int) = true:=by
 have m0:=h.mono (i:=0) (Nat.zero_le _) hk;have m1:=h.mono hk (Nat.le_refl _);rw [h.p0] at m0;rw [h.pn] at m1;exact pt_mk (h.fit k hk) (by rw [Rp.q_self];exact m0) (by rw [Rp.q_self];exact m1)
theorem LnF.good (h : LnF D ps nn len ag P) {k : Nat} (hk : k < nn) : Pc.Good [(P k,P (k + 1))]:=by
 refine ⟨?_,fun r hr => ?_,by simp⟩
 ·show Pc.Inc [P k,P (k + 1)]
  exact ⟨fun r hr => (by rw [List.mem_singleton.1 hr];exact h.inc k hk),fun r hr => (by cases hr),trivial⟩
 ·have hr : r ∈ [P k,P (k + 1)]:=hr
  rcases List.mem_cons.1 hr with rfl | hr
  ·exact h.fit k (by omega)
  ·rw [List.mem_singleton.1 hr];exact h.fit (k + 1) (by omega)
theorem LnF.dv (h : LnF D ps nn len ag P) : DvG D ps:=by
 refine ⟨h.ck,by rw [h.pl,h.dl],fun k hk => ?_,fun k hk r hr => ?_⟩
 ·obtain ⟨i,hi,rfl⟩:=h.surj (j:=k) (by rw [← h.pl];exact hk)
  rw [h.L i hi];exact h.good hi
 ·obtain ⟨i,hi,rfl⟩:=h.surj (j:=k) (by rw [← h.pl];exact hk)
  rw [h.L i hi] at hr;rw [h.ln];have hr : r ∈ [P i,P (i + 1)]:=hr
  rcases List.mem_cons.1 hr with rfl | hr
  ·exact h.pt (by omega)
  ·rw [List.mem_singleton.1 hr];exact h.pt (by omega)
/-- What the pieces are worth. -/
theorem LnF.val (h : LnF D ps nn len ag P) {i k : Nat} (hi : i < nn) (hk : k < nn) :
 (wv D ps i (ag k)).2.2 = 0∧Rp.Ok (wv D ps i (ag k)).1 (wv D ps i (ag k)).2.1∧Rp.q (wv D ps i (ag k)).1 (wv D ps i (ag k)).2.1 = cu (Ak.dAt D i) (P (k + 1)) - cu (Ak.dAt D i) (P k):=by
 obtain ⟨E,E1,E2,d1,d2⟩:=h.dd k hk;obtain ⟨hck,hl1⟩:=Pf.ck_at h.ck (j:=i) (by rw [h.dl];exact hi);rw [h.ln] at hl1;obtain ⟨v1,v2,e1,e2,e3⟩:=value_db hck (a:=(P k).num) (b:=((P k).den : Int)) (x:=(P (k + 1)).num) (y:=((P (k + 1)).den : Int)) (by rw [hl1];exact h.pt (by omega)) (by rw [hl1];exact h.pt (by omega)) (by rw [Rp.q_self,Rp.q_self];exact Rat.le_of_lt (h.inc k hk)) E1 (show E ≤ 100000000 by omega) (by rw [Rp.q_self];exact d1) (by rw [Rp.q_self];exact d2);rw [Rp.q_self,Rp.q_self] at e3
 have hw : Pc.wM (Ak.dAt D i).2.1 (Ak.dAt D i).2.2 (P k,P (k + 1)) = (v1,v2,0):=by
  rw [← e1]
  unfold Ak.vS Pc.wM
  rw [if_pos ⟨by rw [hl1];exact h.pt (by omega),by rw [hl1];exact h.pt (by omega),by rw [Rp.q_self,Rp.q_self];exact Rat.not_lt.2 (Rat.le_of_lt (h.inc k hk))⟩]
 have ha : Rp.addS 0 1 v1 v2 = (v1,v2,0):=by
  rw [Rp.addS_ok (by decide) e2,show Rp.q 0 1 = 0 from by decide +kernel,Rat.zero_add];exact Rp.ofQ_q e2
 have e : wv D ps i (ag k) = (v1,v2,0):=by
  unfold wv
  rw [h.L k hk]
  unfold Pc.sumF
  rw [hw]
  simp only [ha]
  rfl
 rw [e];exact ⟨rfl,e2,e3⟩
theorem LnF.hz (h : LnF D ps nn len ag P) : ∀ a b,a < nn → b < nn → (wv D ps a b).2.2 = 0:=fun a b ha hb => by
 obtain ⟨k,hk,rfl⟩:=h.surj hb;exact (h.val ha hk).1
theorem LnF.hd (h : LnF D ps nn len ag P) {ws : List RwR} (hw : ws.map RwR.l = (List.range nn).map fun k => (List.range nn).map (wp D ps k)) {a : Nat} (ha : a < nn) : (Pf.dv D ws a).2.2 = 0:=by
 obtain ⟨k,hk,rfl⟩:=h.surj ha;obtain ⟨v0,v1,v2⟩:=h.val ha hk
 have hwl : ws.length = nn:=by have:=congrArg List.length hw;simpa using this
 have e : iat (rat ws (ag k)).l (ag k) = wp D ps (ag k) (ag k):=by
  have e1 : (rat ws (ag k)).l = (ws.map RwR.l)[ag k]'(by simp;omega):=by unfold rat;simp [hwl,ha]
  rw [e1]
  simp only [hw]
  unfold iat
  simp [ha]
 obtain ⟨hck,hl1⟩:=Pf.ck_at h.ck (j:=ag k) (by rw [h.dl];exact ha);have hG:=Ck.chk_good (show Ck.chk (Ak.dAt D (ag k)).1 (Ak.dAt D (ag k)).2.1 (Ak.dAt D (ag k)).2.2 = 0 from hck);have l0:=hG.len0;have l1:=hG.len1;have la:=hG.last;have t0:=(Ck.tot_bd hG _ (Nat.le_refl _)).1;have t1:=(Ck.tot_bd hG _ (Nat.le_refl _)).2;have gg:=Ak.chkS_good h.ck;have g0:=gg.l0;have g1:=gg.l1;have hsh:=sh_ok (n:=(nn : Int)) hck (by rw [← h.dl];omega) (by rw [← h.dl];omega)
 have hT : tt (Ak.dAt D (ag k)) ≤ 12000:=by unfold tt;omega
 have hT0 : 0 < tt (Ak.dAt D (ag k)):=by
  have h1:=hsh.2.2.1;have h2:=hsh.2.2.2.2.1
  have h3 : (0 : Rat) < ((nn : Int) : Rat):=by
   have:=Rat.intCast_lt_intCast.2 (show (0 : Int) < (nn : Int) by rw [← h.dl];omega);exact this
  have h4:=Rat.mul_pos h2 h3;rw [h1] at h4;exact Rat.intCast_lt_intCast.1 h4
 obtain ⟨E,E1,E2,d1,d2⟩:=h.dd k hk;have okT : Rp.Ok (tt (Ak.dAt D (ag k))) 1:=Rp.Ok_one (by omega) (by omega)
 unfold Pf.dv
 rw [e]
 unfold wp
 rw [Rp.divS_ok v1 okT (by omega),v2];have hq : Rp.q (tt (Ak.dAt D (ag k))) 1 = ((tt (Ak.dAt D (ag k)) : Int) : Rat):=Rp.q_one _;rw [hq];have hTr : (0 : Rat) < ((tt (Ak.dAt D (ag k)) : Int) : Rat):=Rat.intCast_lt_intCast.2 hT0
 have hne : ((tt (Ak.dAt D (ag k)) : Int) : Rat) ≠ 0:=by grind
 have hp0 : (0 : Rat) ≤ P k:=by have:=h.mono (i:=0) (Nat.zero_le k) (by omega);rwa [h.p0] at this
 have hpn : P (k + 1) ≤ (len : Rat):=by have:=h.mono (i:=k + 1) (k:=nn) (by omega) (Nat.le_refl _);rwa [h.pn] at this
 have hln : ((Ak.dAt D (ag k)).1 : Rat) = (len : Rat):=by rw [hl1,h.ln]
 have c0:=cu_mono hck hp0;have c1:=cu_mono hck hpn;have c2:=cu_mono hck (Rat.le_of_lt (h.inc k hk));rw [cu_zero hck] at c0;rw [← hln,cu_len hck] at c1;have hD2:=Int.mul_le_mul E2 hT (by omega) (by omega);have hD1:=Int.mul_le_mul_of_nonneg_left (show (1 : Int) ≤ tt (Ak.dAt D (ag k)) by omega) (show (0 : Int) ≤ E by omega);have hdv:=Rat.div_mul_cancel (a:=cu (Ak.dAt D (ag k)) (P (k + 1)) - cu (Ak.dAt D (ag k)) (P k)) hne;refine ofQ_part (D:=E * tt (Ak.dAt D (ag k))) (Dd.divi hne (Dd.sub (cum_dd d2 _) (cum_dd d1 _))) (by omega) (by omega) ?_ ?_
 ·refine Rat.not_lt.1 (fun hlt => ?_)
  have:=Rat.mul_lt_mul_of_pos_right hlt hTr;rw [hdv] at this
  grind
 ·refine Rat.not_lt.1 (fun hlt => ?_)
  have:=Rat.mul_lt_mul_of_pos_right hlt hTr;rw [hdv] at this
  grind
theorem flat_one {α : Type} (f : Nat → List α) (g : Nat → α) : ∀ n,(∀ k,k < n → f k = [g k]) → (List.range n).flatMap f = (List.range n).map g
 | 0,_ => rfl
 | n + 1,h => by
  rw [List.range_succ,List.flatMap_append,List.map_append,flat_one f g n (fun k hk => h k (by omega))]
  simp [h n (by omega)]
theorem LnF.cat (h : LnF D ps nn len ag P) : ((List.range nn).map fun k => (P k,P (k + 1))).Perm (cat4 ps):=by
 have e1 : ps = (List.range nn).map (pat ps):=List.ext_getElem (by simp [h.pl]) (fun k h1 h2 => by unfold pat;simp [h1])
 have e2 : cat4 ps = (List.range nn).flatMap (fun j => (pat ps j).L):=by
  have : cat4 ps = ((List.range nn).map (pat ps)).flatMap PcR.L:=by rw [← e1];rfl
  rw [this,List.flatMap_map]
 rw [e2];refine List.Perm.trans ?_ (h.prm.flatMap_right (fun j => (pat ps j).L));rw [List.flatMap_map,flat_one _ (fun k => (P k,P (k + 1))) nn (fun k hk => h.L k hk)]
theorem LnF.cat_len (h : LnF D ps nn len ag P) : (cat4 ps).length = nn:=by rw [← h.cat.length_eq];simp
theorem srt_eq : ∀ (T M : List (Rat × Rat)),(T.Pairwise fun a b => a.1 < b.1) → Srt M → M.Perm T → M = T
 | [],M,_,_,hp => hp.eq_nil
 | t :: T,M,hT,hM,hp => by
  cases M with
  | nil => exact absurd hp.symm.eq_nil (by simp)
  | cons m M =>
   unfold Srt at hM
   have hm : m = t:=by
    rcases List.mem_cons.1 (hp.mem_iff.1 (List.mem_cons_self ..)) with e | e
    ·exact e
    ·have h1:=(List.pairwise_cons.1 hT).1 m e
     rcases List.mem_cons.1 (hp.mem_iff.2 (List.mem_cons_self ..)) with e2 | e2
     ·exact e2.symm
     ·have:=(List.pairwise_cons.1 hM).1 t e2
      grind
   subst hm;rw [srt_eq T M (List.pairwise_cons.1 hT).2 (List.pairwise_cons.1 hM).2 ((List.perm_cons _).1 hp)]
theorem LnF.ls (h : LnF D ps nn len ag P) : ∀ m k,k + m = nn → lsB (len : Rat) ((List.range' k m).map fun i => (P i,P (i + 1))) (P k) = false
 | 0,k,hk => by
  obtain rfl : k = nn:=by omega
  show (!decide (P k = (len : Rat))) = false
  rw [decide_eq_true h.pn]
  rfl
 | m + 1,k,hk => by
  rw [List.range'_succ,List.map_cons]
  show (if P k = P k then lsB (len : Rat) _ (P (k + 1)) else true) = false
  rw [if_pos rfl];exact h.ls m (k + 1) (by omega)
theorem LnF.lv (h : LnF D ps nn len ag P) {M : List (Rat × Rat)} (hp : M.Perm (cat4 ps)) (hs : Srt M) : lsB (len : Rat) M 0 = false:=by
 have hT : ((List.range nn).map fun k => (P k,P (k + 1))).Pairwise (fun a b => a.1 < b.1):=by
  rw [List.pairwise_map,List.pairwise_iff_getElem];intro i j hi hj hij
  simp only [List.length_range] at hi hj
  simp only [List.getElem_range]
  have h1:=h.inc i hi;have h2:=h.mono (i:=i + 1) (k:=j) (by omega) (by omega)
  grind
 rw [srt_eq _ M hT hs (hp.trans h.cat.symm),← h.p0,List.range_eq_range'];exact h.ls nn 0 (by omega)
theorem LnF.cx1 (h : LnF D ps nn len ag P) {W : List (List (Int × Int))} {R : List (Int × Int)} {a b : Nat} (ha : a < nn) (hb : b < nn) : cx D (ps.map PcR.L) W R 1 a b = false:=by
 unfold cx
 rw [if_pos rfl,psd_at (by rw [h.pl];exact ha),psd_at (by rw [h.pl];exact hb)]
 by_cases hab : a < b
 ·obtain ⟨i,hi,rfl⟩:=h.surj ha
  obtain ⟨k,hk,rfl⟩:=h.surj hb;rw [h.L i hi,h.L k hk,comB_side (h.good hi) (h.good hk) ?_]
  ·simp
  ·rcases Nat.lt_trichotomy i k with e | e | e
   ·exact .inl (h.mono (by omega) (by omega))
   ·subst e;omega
   ·exact .inr (h.mono (by omega) (by omega))
 ·simp [hab]
theorem LnF.cx2 (h : LnF D ps nn len ag P) {ws : List RwR} (hw : ws.map RwR.l = (List.range nn).map fun k => (List.range nn).map (wp D ps k)) {R : List (Int × Int)} {a b : Nat} (ha : a < nn) : cx D (ps.map PcR.L) (ws.map RwR.l) R 2 a b = false:=by
 unfold cx
 rw [if_neg (by decide),if_pos rfl];obtain ⟨k,hk,rfl⟩:=h.surj ha;obtain ⟨v0,v1,v2⟩:=h.val ha hk
 have e : wat (ws.map RwR.l) (ag k) (ag k) = wp D ps (ag k) (ag k):=by
  rw [hw]
  unfold wat iat
  simp [ha]
 rw [e]
 unfold wp
 rw [v2,h.dl,decide_eq_false (Rat.not_lt.2 (h.own k hk))]
 simp
theorem LnF.cx16 (h : LnF D ps nn len ag P) {W : List (List (Int × Int))} {R : List (Int × Int)} {a b : Nat} (ha : a < nn) : cx D (ps.map PcR.L) W R 16 a b = false:=by
 unfold cx
 rw [if_neg (by decide),if_neg (by decide),if_neg (by decide),if_neg (by decide),psd_at (by rw [h.pl];exact ha)];obtain ⟨k,hk,rfl⟩:=h.surj ha;rw [h.L k hk]
 simp
theorem ceB_no {n : Nat} {f : Nat → Nat → Bool} (h : ∀ a b,a < n → b < n → f a b = false) : ceB n f false = false:=by
 unfold ceB
 rw [Bool.or_false,List.any_eq_false];intro a ha;rw [Bool.not_eq_true,List.any_eq_false];intro b hb;rw [h a b (List.mem_range.1 ha) (List.mem_range.1 hb)]
 simp
end
/-- The claims of a division that is whole, proportional, of one span each. -/
def bt19 (j : Nat) : Bool:=decide (j = 0 ∨ j = 1 ∨ j = 4)
theorem LnF.claims {cs : List CkR} {ps : List PcR} {nn : Nat} {len : Int} {ag : Nat → Nat} {P : Nat → Rat} (h : LnF (cs.map Ak.dat) ps nn len ag P) (hn : cs.length = nn) {ws : List RwR} (hw : ws.map RwR.l = (List.range cs.length).map fun k => (List.range cs.length).map (wp (cs.map Ak.dat) ps k)) {F : Nat → Bool} {R : List (Int × Int)}
 (hF : ∀ j,j < 5 → bt19 j = true → CeP cs ps ws R (LvP cs ps) j (F j)) : (hs bt19 F 5 == 19) = true:=by
 have gg:=Ak.chkS_good h.ck;have g0:=gg.l0;rw [List.length_map] at g0
 have hlen : (Ak.cat cs 0).len = len:=by
  have:=h.ln;rw [Ak.dAt_map cs (by omega)] at this;exact this
 rw [hn] at hw
 have f0 : F 0 = false:=by
  obtain ⟨x,y,hc⟩:=hF 0 (by decide) (by decide);rw [if_pos rfl] at hc
  rw [hc.eq (lv:=false) (fun b hb _ => by
   obtain ⟨M,hM1,hM2,rfl⟩:=hb;rw [hlen]
   exact h.lv hM1 hM2)]
  exact ceB_no (fun a b ha hb => h.cx1 (by omega) (by omega))
 have f1 : F 1 = false:=by
  obtain ⟨x,y,hc⟩:=hF 1 (by decide) (by decide);rw [if_neg (by decide)] at hc;rw [hc.eq (lv:=false) (fun b hb _ => hb)];exact ceB_no (fun a b ha hb => h.cx2 hw (by omega))
 have f4 : F 4 = false:=by
  obtain ⟨x,y,hc⟩:=hF 4 (by decide) (by decide);rw [if_neg (by decide)] at hc;rw [hc.eq (lv:=false) (fun b hb _ => hb)];exact ceB_no (fun a b ha hb => h.cx16 (by omega))
 have e : hs bt19 F 5 = 19:=by
  simp only [hs,f0,f1,f4,show bt19 2 = false from rfl,show bt19 3 = false from rfl,Bool.false_and]
  decide
 rw [e]
 rfl
end Pf
end Go.Proofs.YtogmfebphiglaaaGreat


