/- Contract of package cake's Check. The plain mathematics of ratios: what the functions of layer 1 return, as functions on integers and rational numbers. The texts of ratios: what Text and Parse return, as functions on lists of bytes. The laws of the functions that say what ratios return: plain mathematics. The plain mathematics of a division of 128 bits by 64 bits, two digits of 32 bits at a time. -/
import Derived.Test.YtogmfebphiglaaaGreatGb
import Derived.LoopTactic
import Derived.IntWalk
import Derived.Deep.QuietTactic
import Derived.BigQuiet
import Derived.Deep.Draws
import Derived.Deep.CutBlock
import Derived.Deep.DeepCutAuto
import Derived.Lib.ItoaNum
import Derived.Lib.ParseIntB
import Derived.Lib.ParseIntBCases
import Derived.Lib.IndexMore
namespace Go.Proofs.YtogmfebphiglaaaGreat
open Go.RowKit

theorem below_drewN {B : Nat} {a w : World} (h : Below B a w) (n : Nat) : Below B a (w.drewN n):=⟨h.os,h.tape,h.output,h.size,h.block⟩
theorem n30 (u : World) (a b c : Value) (t : TypeId) : (u.alloc (.cells #[a,b,c] t)).cell? ⟨u.heap.size,0,none⟩ = some a:=new0 u a b c t
theorem n31 (u : World) (a b c : Value) (t : TypeId) : (u.alloc (.cells #[a,b,c] t)).cell? ⟨u.heap.size,1,none⟩ = some b:=new1 u a b c t
theorem n32 (u : World) (a b c : Value) (t : TypeId) : (u.alloc (.cells #[a,b,c] t)).cell? ⟨u.heap.size,2,none⟩ = some c:=new2 u a b c t

set_option maxHeartbeats 4000000 in
set_option maxRecDepth 100000 in
theorem ckCheck_any (len : Int) (K : Option Addr) (cuts : List Int) (ck : Nat) (Z : Option Addr) (dens : List Int) (cz : Nat) (w : World) (h : IsCake w len K cuts Z dens) :
 Calls Tryz.prog 85 #[.agg #[.int .i64 len,.slice K cuts.length ck,.slice Z dens.length cz]] w fun e w' => e = .returned (.int .i64 (Ck.chk len cuts dens))∧Below w.heap.size w w':=by
 obtain ⟨⟨l0,l1⟩,⟨hc,hd⟩,iK,iZ⟩:=h
 have ws:=fun w h => wanted_any Z dens cz w hd h
 unfold maxLen at hc hd
 by_cases hg : Ck.great len cuts = true
 ·have e : Ck.chk len cuts dens = 4:=by unfold Ck.chk;rw [if_pos hg]
  rw [e];clear e ws
  unfold Ck.great at hg
  rw [Bool.or_eq_true,decide_eq_true_eq,decide_eq_true_eq] at hg
  by_cases h1 : 1000 < len
  ·have d1 : decide (1000 < len) = true:=decide_eq_true h1
   clear hg iK iZ
   go_enter Tryz.func85,Tryz.ntmps85
   go_wp2_with fail
   go_ret
   exact ⟨rfl,(Below.refl _ _).alloc (Nat.le_refl _) _⟩
  ·have d1 : decide (1000 < len) = false:=decide_eq_false h1
   have d2 : decide (40 < (cuts.length : Int)) = true:=decide_eq_true (by omega);clear hg iK iZ
   go_enter Tryz.func85,Tryz.ntmps85
   go_wp2_with fail
   go_ret
   exact ⟨rfl,(Below.refl _ _).alloc (Nat.le_refl _) _⟩
 ·have hg' : len ≤ 1000∧cuts.length ≤ 40:=by
   unfold Ck.great at hg
   rw [Bool.or_eq_true,decide_eq_true_eq,decide_eq_true_eq] at hg
   omega
  obtain ⟨hlen,hcut⟩:=hg';have d1 : decide (1000 < len) = false:=decide_eq_false (by omega);have d2 : decide (40 < (cuts.length : Int)) = false:=decide_eq_false (by omega)
  by_cases hs : Ck.shapeBad len cuts dens = true
  ·have e : Ck.chk len cuts dens = 8:=by unfold Ck.chk;rw [if_neg hg,if_pos hs]
   rw [e];clear e ws hg
   unfold Ck.shapeBad at hs
   rw [Bool.or_eq_true,Bool.or_eq_true,decide_eq_true_eq,decide_eq_true_eq,decide_eq_true_eq] at hs
   by_cases s1 : len < 1
   ·have d3 : decide (len < 1) = true:=decide_eq_true s1
    clear hs iK iZ
    go_enter Tryz.func85,Tryz.ntmps85
    go_wp2_with fail
    go_ret
    exact ⟨rfl,(Below.refl _ _).alloc (Nat.le_refl _) _⟩
   ·have d3 : decide (len < 1) = false:=decide_eq_false s1
    by_cases s2 : cuts.length < 2
    ·have d4 : decide ((cuts.length : Int) < 2) = true:=decide_eq_true (by omega)
     clear hs iK iZ
     go_enter Tryz.func85,Tryz.ntmps85
     go_wp2_with fail
     go_ret
     exact ⟨rfl,(Below.refl _ _).alloc (Nat.le_refl _) _⟩
    ·have d4 : decide ((cuts.length : Int) < 2) = false:=decide_eq_false (by omega)
     have d5 : ((dens.length : Int) != (cuts.length : Int) - 1) = true:=by rw [bne_iff_ne];omega
     have d6 : ((dens.length : Int) == (cuts.length : Int) - 1) = false:=by rw [beq_eq_false_iff_ne];omega
     clear hs iK iZ
     go_enter Tryz.func85,Tryz.ntmps85
     go_wp2_with fail
     go_ret
     exact ⟨rfl,(Below.refl _ _).alloc (Nat.le_refl _) _⟩
  ·have hs' : 1 ≤ len∧2 ≤ cuts.length∧dens.length + 1 = cuts.length:=by
    unfold Ck.shapeBad at hs
    rw [Bool.or_eq_true,Bool.or_eq_true,decide_eq_true_eq,decide_eq_true_eq,decide_eq_true_eq] at hs
    omega
   obtain ⟨s1,s2,s3⟩:=hs';have d3 : decide (len < 1) = false:=decide_eq_false (by omega);have d4 : decide ((cuts.length : Int) < 2) = false:=decide_eq_false (by omega)
   have d5 : ((dens.length : Int) != (cuts.length : Int) - 1) = false:=by rw [bne_eq_false_iff_eq];omega
   have d6 : ((dens.length : Int) == (cuts.length : Int) - 1) = true:=by rw [beq_iff_eq];omega
   obtain ⟨bk,ok,rfl,hk⟩:=iK.1 (by omega);obtain ⟨bz,oz,rfl,hz⟩:=iZ.1 (by omega);have IZ:=Lib.hid iZ;have BK:=Lib.hid iK.bd;have BZ:=Lib.hid iZ.bd;obtain ⟨m,hm⟩ : ∃ m,dens.length = m:=⟨_,rfl⟩
   have hn : cuts.length = m + 1:=by omega
   have HE:=Lib.hid (show Ck.endsBad len cuts = (decide (Ck.at_ cuts 0 ≠ 0) || decide (Ck.at_ cuts m ≠ len)) by unfold Ck.endsBad;rw [hn];rfl)
   have hchk : Ck.chk len cuts dens = if Ck.endsBad len cuts then 8 else if Ck.anyBad cuts dens then 8 else if Ck.wanted dens then 0 else 8:=by
    unfold Ck.chk
    rw [if_neg hg,if_neg hs]
   rw [hchk];have HBof:=Lib.hid (fun k (h : k < m) (hb : Ck.badAt cuts dens k = true) => Ck.bad_of (c:=cuts) (d:=dens) (by omega) hb);have HBno:=Lib.hid (fun (h : ∀ j,j < m → Ck.badAt cuts dens j = false) => Ck.bad_not (c:=cuts) (d:=dens) (fun j hj => h j (by omega)));rw [hm] at ws hz ⊢;rw [hn] at hk ⊢;replace d2 : decide (40 < (m : Int) + 1) = false:=decide_eq_false (by omega);replace d4 : decide ((m : Int) + 1 < 2) = false:=decide_eq_false (by omega)
   replace d5 : ((m : Int) != (m : Int)) = false:=by simp
   clear d6
   have hmm : m ≤ 39:=by omega
   have hm1 : 1 ≤ m:=by omega
   have x0:=hk 0 (by omega);have x1:=hk m (by omega);rw [Nat.add_zero] at x0;have WS:=Lib.hid ws;have HK:=Lib.hid hk;have HZ:=Lib.hid hz;have HG:=Lib.hid hg;have b0:=BK.out 0;have b1:=BK.out m
   unfold I64 at b0 b1
   clear ws hk hz iK iZ hg hs hchk hc hd hcut s2 s3
   by_cases e1 : Ck.at_ cuts 0 = 0
   ·rw [e1] at x0
    have n1 : ((0 : Int) != 0) = false:=rfl
    by_cases e2 : Ck.at_ cuts m = len
    ·have he : Ck.endsBad len cuts = false:=by rw [HE.out,e1,e2];simp
     rw [he,if_neg (by simp)]
     generalize hR : (if Ck.anyBad cuts dens = true then (8 : Int) else if Ck.wanted dens = true then 0 else 8) = R
     have HR:=Lib.hid hR;clear hR;rw [e2] at x1
     have n2 : (len != len) = false:=by simp
     clear he e1 e2 HE b0 b1
     go_enter Tryz.func85,Tryz.ntmps85
     go_upto_region 5 with fail
     refine at_worldQ (fun v => Below w.heap.size w v∧v.cell? ⟨w.heap.size,0,none⟩ = some (.int .i64 len)∧v.cell? ⟨w.heap.size,1,none⟩ = some (.slice (some ⟨bk,ok,none⟩) (m + 1) ck)∧v.cell? ⟨w.heap.size,2,none⟩ = some (.slice (some ⟨bz,oz,none⟩) m cz)∧v.cell? ⟨bk,ok,none⟩ = some (.int .i64 0)∧v.cell? ⟨bk,ok + m,none⟩ = some (.int .i64 len)) ⟨(Below.refl _ _).alloc (Nat.le_refl _) _,n30 _ _ _ _ _,n31 _ _ _ _ _,n32 _ _ _ _ _,cell_alloc x0 _,cell_alloc x1 _⟩ (fun V hS => ?_);obtain ⟨hbb,y0,y1,y2,x0,x1⟩:=hS
     go_quiet (fail)
     (go_wp2_with fail);clear x0 x1 n1 n2 d1 d2 d3 d4 d5 l0 l1 hlen s1;have fy0:=Lib.hid (below_drewN hbb nq)
     go_loopw [3,4,54] (fun _ _ i v => ∃ k : Nat,k ≤ m∧i = .int .i64 k∧Below w.heap.size w v∧v.cell? ⟨w.heap.size,0,none⟩ = some (.int .i64 len)∧v.cell? ⟨w.heap.size,1,none⟩ = some (.slice (some ⟨bk,ok,none⟩) (m + 1) ck)∧v.cell? ⟨w.heap.size,2,none⟩ = some (.slice (some ⟨bz,oz,none⟩) m cz)∧Hid (∀ j,j < k → Ck.badAt cuts dens j = false)) (fun _ _ i _ => m - (intOf i).toNat)
     case atStart => exact ⟨0,Nat.zero_le _,rfl,fy0.out,y0,y1,y2,fun j hj => absurd hj (by omega)⟩
     case round =>
      clear hbb y0 y1 y2 fy0;obtain ⟨k,hk,rfl,hbb,y0,y1,y2,HN⟩:=hrel
      by_cases hlt : k < m
      ·have z0:=keepC hbb (HZ.out k hlt)
       have c0:=keepC hbb (HK.out k (by omega));have c1:=keepC hbb (HK.out (k + 1) (by omega));have HBk:=Lib.hid (show Ck.badAt cuts dens k = (decide (Ck.at_ cuts (k + 1) ≤ Ck.at_ cuts k) || decide (Ck.at_ dens k < 0) || decide (12 < Ck.at_ dens k)) from rfl);have HOf:=Lib.hid (HBof.out k hlt)
       have HS:=Lib.hid (fun (hp : Ck.badAt cuts dens k = false) j (hj : j < k + 1) => by
        rcases Nat.lt_or_ge j k with h1 | h1
        ·exact HN.out j h1
        ·obtain rfl : j = k:=by omega
         exact hp)
       have q1:=BK.out k;have q2:=BK.out (k + 1);have q3:=BZ.out k
       unfold I64 at q1 q2 q3
       have a1 : (0 : Int) ≤ (k : Int) + 1:=by omega
       have a2 : (k : Int) < (m : Int):=by omega
       have a3 : (k : Int) + 1 < (m : Int) + 1:=by omega
       have a4 : ((k : Int) + 1).toNat = k + 1:=by omega
       have a5 : IntKind.i64.wrap ((k : Int) + 1) = (k : Int) + 1:=IntWalk.i64_in _ (by omega);clear HBof HBno HZ HK BK BZ WS IZ HN HG
       generalize Ck.at_ cuts (k + 1) = p2 at *
       generalize Ck.at_ cuts k = p1 at *
       generalize Ck.at_ dens k = d at *
       by_cases b1 : p2 ≤ p1
       ·have e1 : decide (p2 ≤ p1) = true:=decide_eq_true b1
        have hb : Ck.anyBad cuts dens = true:=HOf.out (by rw [HBk.out,e1];rfl)
        obtain rfl : R = 8:=by rw [← HR.out,if_pos hb]
        clear HR hb HBk HOf HS b1;(go_wp2_with fail)
        go_quiet (fail)
        go_wp2_with fail
        go_ret
        exact ⟨rfl,below_drewN hbb _⟩
       ·have e1 : decide (p2 ≤ p1) = false:=decide_eq_false b1
        by_cases b2 : d < 0
        ·have e2 : decide (d < 0) = true:=decide_eq_true b2
         have hb : Ck.anyBad cuts dens = true:=HOf.out (by rw [HBk.out,e1,e2];rfl)
         obtain rfl : R = 8:=by rw [← HR.out,if_pos hb]
         clear HR hb HBk HOf HS b1;(go_wp2_with fail)
         go_quiet (fail)
         go_wp2_with fail
         go_ret
         exact ⟨rfl,below_drewN hbb _⟩
        ·have e2 : decide (d < 0) = false:=decide_eq_false b2
         by_cases b3 : 12 < d
         ·have e3 : decide (12 < d) = true:=decide_eq_true b3
          have hb : Ck.anyBad cuts dens = true:=HOf.out (by rw [HBk.out,e1,e2,e3];rfl)
          obtain rfl : R = 8:=by rw [← HR.out,if_pos hb]
          clear HR hb HBk HOf HS b1;(go_wp2_with fail)
          go_quiet (fail)
          go_wp2_with fail
          go_ret
          exact ⟨rfl,below_drewN hbb _⟩
         ·have e3 : decide (12 < d) = false:=decide_eq_false b3
          have HS2:=Lib.hid (HS.out (by rw [HBk.out,e1,e2,e3];rfl));clear HBk HOf HS b1;(go_wp2_with fail)
          go_quiet (fail)
          go_wp2_with fail
          go_roundw
          case rel => exact ⟨k + 1,by omega,by go_num,below_drewN hbb _,y0,y1,y2,HS2⟩
          case measure => simp [intOf];omega
      ·obtain rfl : k = m:=by omega
       have hb : Ck.anyBad cuts dens = false:=HBno.out HN.out;have hR2:=HR.out;rw [hb,if_neg (by simp)] at hR2;clear HR hb HBof HBno HZ HK BK BZ HN HG;have iz:=Lib.hid (IZ.out.keep hbb)
       rcases hw : Ck.wanted dens with _ | _
       ·have WS2:=Lib.hid (fun v h => WS.out v h)
        rw [hw] at WS2
        obtain rfl : R = 8:=by rw [← hR2,hw];rfl
        clear hw WS IZ hR2;(go_wp2_with fail);refine (WS2.out _ iz.out).mono ?_;rintro e w' ⟨rfl,rfl⟩;clear WS2 iz;(go_wp2_with fail)
        go_ret
        exact ⟨rfl,hbb⟩
       ·have WS2:=Lib.hid (fun v h => WS.out v h)
        rw [hw] at WS2
        obtain rfl : R = 0:=by rw [← hR2,hw];rfl
        clear hw WS IZ hR2;(go_wp2_with fail);refine (WS2.out _ iz.out).mono ?_;rintro e w' ⟨rfl,rfl⟩;clear WS2 iz;(go_wp2_with fail)
        go_ret
        exact ⟨rfl,hbb⟩
    ·have he : Ck.endsBad len cuts = true:=by rw [HE.out];simp [e2]
     rw [he,if_pos rfl]
     have n2 : (Ck.at_ cuts m != len) = true:=by rw [bne_iff_ne];exact e2
     generalize Ck.at_ cuts m = y at *
     clear he e1 HE e2
     go_enter Tryz.func85,Tryz.ntmps85
     go_upto_region 5 with fail
     refine at_worldQ (fun v => Below w.heap.size w v∧v.cell? ⟨w.heap.size,0,none⟩ = some (.int .i64 len)∧v.cell? ⟨w.heap.size,1,none⟩ = some (.slice (some ⟨bk,ok,none⟩) (m + 1) ck)∧v.cell? ⟨w.heap.size,2,none⟩ = some (.slice (some ⟨bz,oz,none⟩) m cz)∧v.cell? ⟨bk,ok,none⟩ = some (.int .i64 0)∧v.cell? ⟨bk,ok + m,none⟩ = some (.int .i64 y)) ⟨(Below.refl _ _).alloc (Nat.le_refl _) _,n30 _ _ _ _ _,n31 _ _ _ _ _,n32 _ _ _ _ _,cell_alloc x0 _,cell_alloc x1 _⟩ (fun V hS => ?_);obtain ⟨hbb,y0,y1,y2,x0,x1⟩:=hS
     go_quiet (fail)
     go_wp2_with fail
     go_ret
     exact ⟨rfl,below_drewN hbb _⟩
   ·have he : Ck.endsBad len cuts = true:=by rw [HE.out];simp [e1]
    rw [he,if_pos rfl]
    have n1 : (Ck.at_ cuts 0 != 0) = true:=by rw [bne_iff_ne];exact e1
    generalize Ck.at_ cuts 0 = y at *
    clear he e1 HE x1
    go_enter Tryz.func85,Tryz.ntmps85
    go_upto_region 5 with fail
    refine at_worldQ (fun v => Below w.heap.size w v∧v.cell? ⟨w.heap.size,0,none⟩ = some (.int .i64 len)∧v.cell? ⟨w.heap.size,1,none⟩ = some (.slice (some ⟨bk,ok,none⟩) (m + 1) ck)∧v.cell? ⟨w.heap.size,2,none⟩ = some (.slice (some ⟨bz,oz,none⟩) m cz)∧v.cell? ⟨bk,ok,none⟩ = some (.int .i64 y)) ⟨(Below.refl _ _).alloc (Nat.le_refl _) _,n30 _ _ _ _ _,n31 _ _ _ _ _,n32 _ _ _ _ _,cell_alloc x0 _⟩ (fun V hS => ?_);obtain ⟨hbb,y0,y1,y2,x0⟩:=hS
    go_quiet (fail)
    go_wp2_with fail
    go_ret
    exact ⟨rfl,below_drewN hbb _⟩
end Go.Proofs.YtogmfebphiglaaaGreat


namespace Go.Proofs.YtogmfebphiglaaaGreat
namespace Rp
/-- A valid ratio. -/
def Ok (n d : Int) : Prop:=1 ≤ d∧d ≤ 1000000000000000000∧-1000000000000000000 ≤ n∧n ≤ 1000000000000000000∧Nat.gcd n.natAbs d.natAbs = 1
instance (n d : Int) : Decidable (Ok n d):=by unfold Ok;infer_instance
def chk (n d : Int) : Int:=if Ok n d then 0 else 8
def both (n d m c : Int) : Int:=if Ok n d then chk m c else 8
def q (n d : Int) : Rat:=Rat.divInt n d
/-- Numerator, denominator, error. -/
def low (n d : Int) : Int × Int × Int:=if n.natAbs ≤ 1000000000000000000∧d.natAbs ≤ 1000000000000000000 then (n,d,0) else (0,0,16)
def ofQ (r : Rat) : Int × Int × Int:=low r.num r.den
def add (n d m c : Int) : Int × Int × Int:=ofQ (q n d + q m c)
def mul (n d m c : Int) : Int × Int × Int:=ofQ (q n d * q m c)
def addS (n d m c : Int) : Int × Int × Int:=if both n d m c = 0 then add n d m c else (0,0,8)
def subS (n d m c : Int) : Int × Int × Int:=if both n d m c = 0 then ofQ (q n d - q m c) else (0,0,8)
def mulS (n d m c : Int) : Int × Int × Int:=if both n d m c = 0 then mul n d m c else (0,0,8)
def divS (n d m c : Int) : Int × Int × Int:=if both n d m c = 0 then (if m = 0 then (0,0,18) else ofQ (q n d / q m c)) else (0,0,8)
def makeS (n d : Int) : Int × Int × Int:=if d = 0 then (0,0,18) else ofQ (q n d)
def cmpQ (x y : Rat) : Int:=if x < y then -1 else if y < x then 1 else 0
def cmpS (n d m c : Int) : Int × Int:=if both n d m c = 0 then (cmpQ (q n d) (q m c),0) else (0,8)
theorem q_num {n d : Int} (h : Ok n d) : (q n d).num = n:=by
 obtain ⟨h1,_,_,_,h5⟩:=h
 unfold q
 rw [Rat.num_divInt,Int.sign_eq_one_of_pos (by omega),Int.one_mul]
 have : Int.gcd d n = 1:=by rw [Int.gcd_comm];exact h5
 rw [this];simp
theorem q_den {n d : Int} (h : Ok n d) : (q n d).den = d.natAbs:=by
 obtain ⟨h1,_,_,_,h5⟩:=h
 unfold q
 rw [Rat.den_divInt,if_neg (by omega)]
 have : Int.gcd d n = 1:=by rw [Int.gcd_comm];exact h5
 rw [this];simp
theorem q_denI {n d : Int} (h : Ok n d) : ((q n d).den : Int) = d:=by
 rw [q_den h];obtain ⟨h1,_⟩:=h;omega
theorem q_self (r : Rat) : q r.num r.den = r:=by
 unfold q;exact Rat.num_divInt_den r

theorem gcd_mod_right (a b : Nat) : Nat.gcd a (b % a) = Nat.gcd a b:=by
 rw [Nat.gcd_comm,← Nat.gcd_rec]

/-- The sum, as it is reckoned. -/
theorem add_parts {n d m c : Int} (h : Ok n d) (k : Ok m c) (g : Nat) (hg : g = Nat.gcd d.natAbs c.natAbs) (N : Int) (hN : N = n * (c / (g : Int)) + m * (d / (g : Int))) (cn : Nat) (hc : cn = Nat.gcd g (N.natAbs % g)) :
 (q n d + q m c).num = N / (cn : Int)∧((q n d + q m c).den : Int) = (d / (g : Int)) * (c / (cn : Int))∧(cn : Int) ∣ N∧1 ≤ g∧1 ≤ cn∧cn ≤ g:=by
 have hd1 : 0 < d:=by have:=h.1;omega
 have hc1 : 0 < c:=by have:=k.1;omega
 obtain ⟨D,rfl⟩:=Int.eq_ofNat_of_zero_le (Int.le_of_lt hd1);obtain ⟨C,rfl⟩:=Int.eq_ofNat_of_zero_le (Int.le_of_lt hc1)
 simp only [Int.natAbs_natCast] at hg
 have D1 : 0 < D:=by omega
 have C1 : 0 < C:=by omega
 have g1 : 0 < g:=by rw [hg];exact Nat.gcd_pos_of_pos_left _ D1
 have gD : g ∣ D:=by rw [hg];exact Nat.gcd_dvd_left ..
 have gC : g ∣ C:=by rw [hg];exact Nat.gcd_dvd_right ..
 have hcn : cn = N.natAbs.gcd g:=by rw [hc,gcd_mod_right,Nat.gcd_comm]
 have hN' : N = n * ((C / g : Nat) : Int) + m * ((D / g : Nat) : Int):=by rw [hN];simp
 have aux:=Rat.add.aux (q n D) (q m C) (g:=g) (by rw [q_den h,q_den k];simpa using hg) rfl rfl
 simp only [q_num h,q_num k,q_den h,q_den k,Int.natAbs_natCast] at aux
 rw [← hN',← hcn] at aux
 have hsum : q n D + q m C = mkRat N (D / g * C):=by
  show Rat.divInt n (D : Int) + Rat.divInt m (C : Int) = _
  rw [Rat.divInt_add_divInt _ _ (by omega) (by omega),← Int.natCast_mul,Rat.divInt_ofNat];rw [← Rat.mkRat_mul_left (a:=g) (by omega) (n:=N)]
  congr 1
  ·rw [hN',Int.mul_add]
   congr 1
   ·rw [← Int.mul_assoc,Int.mul_comm (g : Int) n,Int.mul_assoc,← Int.natCast_mul,Nat.mul_div_cancel' gC]
   ·rw [← Int.mul_assoc,Int.mul_comm (g : Int) m,Int.mul_assoc,← Int.natCast_mul,Nat.mul_div_cancel' gD]
  ·rw [← Nat.mul_assoc,Nat.mul_div_cancel' gD]
 have cg : cn ∣ g:=by rw [hcn];exact Nat.gcd_dvd_right ..
 have cnN : (cn : Int) ∣ N:=by rw [hcn];exact Int.ofNat_dvd_left.2 (Nat.gcd_dvd_left ..)
 have cn1 : 0 < cn:=by rw [hcn];exact Nat.gcd_pos_of_pos_right _ g1
 have hz : D / g * C ≠ 0:=by
  have : 0 < D / g:=Nat.div_pos (Nat.le_of_dvd D1 gD) g1;exact Nat.ne_of_gt (Nat.mul_pos this C1)
 refine ⟨?_,?_,cnN,g1,cn1,Nat.le_of_dvd g1 cg⟩
 ·rw [hsum,Rat.num_mkRat,if_neg hz,Nat.gcd_comm,← aux]
 ·rw [hsum,Rat.den_mkRat,if_neg hz,Nat.gcd_comm,← aux]
  rw [Nat.mul_div_assoc _ (Nat.dvd_trans cg gC)]
  simp

/-- The product, as it is reckoned. -/
theorem mul_parts {n d m c : Int} (h : Ok n d) (k : Ok m c) (a b : Nat) (ha : a = Nat.gcd n.natAbs c.natAbs) (hb : b = Nat.gcd m.natAbs d.natAbs) :
 (q n d * q m c).num = n.tdiv a * m.tdiv b∧((q n d * q m c).den : Int) = (d / (b : Int)) * (c / (a : Int))∧1 ≤ a∧1 ≤ b∧(a : Int) ∣ n∧(b : Int) ∣ m∧(a : Int) ≤ c∧(b : Int) ≤ d:=by
 have hd1 : 0 < d:=by have:=h.1;omega
 have hc1 : 0 < c:=by have:=k.1;omega
 obtain ⟨D,rfl⟩:=Int.eq_ofNat_of_zero_le (Int.le_of_lt hd1);obtain ⟨C,rfl⟩:=Int.eq_ofNat_of_zero_le (Int.le_of_lt hc1)
 simp only [Int.natAbs_natCast] at ha hb
 have D1 : 0 < D:=by omega
 have C1 : 0 < C:=by omega
 have e : q n D * q m C = Rat.mul (q n D) (q m C):=rfl
 have a1 : 0 < a:=by rw [ha];exact Nat.gcd_pos_of_pos_right _ C1
 have b1 : 0 < b:=by rw [hb];exact Nat.gcd_pos_of_pos_right _ D1
 refine ⟨?_,?_,a1,b1,?_,?_,?_,?_⟩
 ·rw [e];delta Rat.mul;dsimp only
  simp only [q_num h,q_num k,q_den h,q_den k,Int.natAbs_natCast,Int.divExact_eq_tdiv,← ha,← hb]
 ·rw [e];delta Rat.mul;dsimp only
  simp only [q_num h,q_num k,q_den h,q_den k,Int.natAbs_natCast,Nat.divExact_eq_div,← ha,← hb]
  simp
 ·rw [ha];exact Int.ofNat_dvd_left.2 (Nat.gcd_dvd_left ..)
 ·rw [hb];exact Int.ofNat_dvd_left.2 (Nat.gcd_dvd_left ..)
 ·have : a ≤ C:=Nat.le_of_dvd C1 (by rw [ha];exact Nat.gcd_dvd_right ..)
  omega
 ·have : b ≤ D:=Nat.le_of_dvd D1 (by rw [hb];exact Nat.gcd_dvd_right ..)
  omega
end Rp
end Go.Proofs.YtogmfebphiglaaaGreat
namespace Go.Proofs.YtogmfebphiglaaaGreat
namespace Rp
end Rp
end Go.Proofs.YtogmfebphiglaaaGreat
namespace Go.Proofs.YtogmfebphiglaaaGreat
namespace Rp
theorem ofQ_cases (r : Rat) : ((ofQ r).2.2 = 0∧Ok (ofQ r).1 (ofQ r).2.1∧q (ofQ r).1 (ofQ r).2.1 = r) ∨ ofQ r = (0,0,16):=by
 unfold ofQ low
 have hd : 0 < r.den:=r.den_pos
 split
 ·rename_i h
  refine .inl ⟨rfl,⟨show (1 : Int) ≤ (r.den : Int) by omega,show (r.den : Int) ≤ 1000000000000000000 by omega,show -1000000000000000000 ≤ r.num by omega,show r.num ≤ 1000000000000000000 by omega,?_⟩,q_self r⟩;have:=r.reduced
  simpa [Nat.Coprime] using this
 ·exact .inr rfl
theorem ofQ_q {n d : Int} (h : Ok n d) : ofQ (q n d) = (n,d,0):=by
 unfold ofQ low
 rw [q_num h,q_denI h];obtain ⟨h1,h2,h3,h4,_⟩:=h;rw [if_pos (by omega)]
theorem both_ok {n d m c : Int} (h : Ok n d) (k : Ok m c) : both n d m c = 0:=by unfold both chk;rw [if_pos h,if_pos k]
theorem addS_ok {n d m c : Int} (h : Ok n d) (k : Ok m c) : addS n d m c = ofQ (q n d + q m c):=by unfold addS add;rw [if_pos (both_ok h k)]
theorem subS_ok {n d m c : Int} (h : Ok n d) (k : Ok m c) : subS n d m c = ofQ (q n d - q m c):=by unfold subS;rw [if_pos (both_ok h k)]
theorem mulS_ok {n d m c : Int} (h : Ok n d) (k : Ok m c) : mulS n d m c = ofQ (q n d * q m c):=by unfold mulS mul;rw [if_pos (both_ok h k)]
theorem divS_ok {n d m c : Int} (h : Ok n d) (k : Ok m c) (hm : ¬ m = 0) : divS n d m c = ofQ (q n d / q m c):=by unfold divS;rw [if_pos (both_ok h k),if_neg hm]
theorem cmpS_ok {n d m c : Int} (h : Ok n d) (k : Ok m c) : cmpS n d m c = (cmpQ (q n d) (q m c),0):=by unfold cmpS;rw [if_pos (both_ok h k)]
theorem Ok_one {F : Int} (h0 : -1000000000000000000 ≤ F) (h1 : F ≤ 1000000000000000000) : Ok F 1:=⟨by omega,by omega,h0,h1,by simp⟩
end Rp
end Go.Proofs.YtogmfebphiglaaaGreat
namespace Go.Proofs.YtogmfebphiglaaaGreat
namespace Kn
/-! One digit of a long division: v = v1 * 2^32 + v0 with v1 at least 2^31; r less than v; d a digit. -/
def qt (v r d : Int) : Int:=(r * 4294967296 + d) / v

theorem exact {v1 v0 v r d Q R : Int} (hv : v = v1 * 4294967296 + v0) (hv1 : 0 < v) (hr : Q * v1 + R = r) (hge : qt v r d ≤ Q) (hle : Q * v0 ≤ 4294967296 * R + d) : Q = qt v r d:=by
 have h : Q ≤ qt v r d:=by
  unfold qt
  refine Int.le_ediv_of_mul_le hv1 ?_
  have e : Q * v = (Q * v1) * 4294967296 + Q * v0:=by rw [hv];grind
  rw [e]
  generalize Q * v1 = A at *
  generalize Q * v0 = C at *
  omega
 omega

theorem lt_base {v r d : Int} (hr : r < v) (h0 : 0 ≤ r) (hd : d < 4294967296) : qt v r d < 4294967296:=by
 unfold qt
 refine Int.ediv_lt_of_lt_mul (by omega) ?_;rw [Int.mul_comm]
 omega

theorem nonneg {v r d : Int} (hr : r < v) (h0 : 0 ≤ r) (hd : 0 ≤ d) : 0 ≤ qt v r d:=by
 unfold qt;exact Int.ediv_nonneg (by omega) (by omega)

theorem less {v1 v0 v r d Q R : Int} (hv : v = v1 * 4294967296 + v0) (hv1 : 0 < v) (hr : Q * v1 + R = r) (hlt : r < v) (h0 : 0 ≤ r) (hd : d < 4294967296)
 (h : 4294967296 ≤ Q ∨ 4294967296 * R + d < Q * v0) : qt v r d ≤ Q - 1:=by
 rcases h with h | h
 ·have:=lt_base hlt h0 hd;omega
 ·have : qt v r d < Q:=by
   unfold qt
   refine Int.ediv_lt_of_lt_mul hv1 ?_
   have e : Q * v = (Q * v1) * 4294967296 + Q * v0:=by rw [hv];grind
   rw [e]
   generalize Q * v1 = A at *
   generalize Q * v0 = C at *
   omega
  omega

theorem broke {v1 v0 v r d Q R : Int} (hv : v = v1 * 4294967296 + v0) (hv1 : 0 < v) (hr : Q * v1 + R = r) (hge : qt v r d ≤ Q) (hQ : Q ≤ 4294967296) (hR : 4294967296 ≤ R) (hv0 : 0 ≤ v0) (hv0' : v0 < 4294967296) (hd : 0 ≤ d) : Q = qt v r d:=by
 refine exact hv hv1 hr hge ?_;have : Q * v0 ≤ 4294967296 * 4294967295:=Int.mul_le_mul hQ (by omega) hv0 (by omega)
 omega

theorem first {v1 v0 v r d : Int} (hv : v = v1 * 4294967296 + v0) (hlt : r < v) (h0 : 0 ≤ r) (hd : d < 4294967296) (hd0 : 0 ≤ d) (hv0 : 0 ≤ v0) (hv0' : v0 < 4294967296) (h1 : 2147483648 ≤ v1) :
 qt v r d ≤ r / v1∧r / v1 ≤ 4294967297∧0 ≤ r / v1:=by
 refine ⟨?_,?_,Int.ediv_nonneg h0 (by omega)⟩
 ·refine Int.le_ediv_of_mul_le (by omega) ?_
  have h2 : qt v r d * v ≤ r * 4294967296 + d:=by unfold qt;exact Int.ediv_mul_le _ (by omega)
  have h3:=nonneg hlt h0 hd0 (d:=d)
  have e : qt v r d * v = (qt v r d * v1) * 4294967296 + qt v r d * v0:=by rw [hv];grind
  have h4 : 0 ≤ qt v r d * v0:=Int.mul_nonneg h3 hv0;rw [e] at h2
  generalize qt v r d * v1 = A at *
  generalize qt v r d * v0 = C at *
  omega
 ·have : r / v1 < 4294967298:=Int.ediv_lt_of_lt_mul (by omega) (by omega)
  omega

theorem rest {v r d : Int} : r * 4294967296 + d - qt v r d * v = (r * 4294967296 + d) % v:=by
 unfold qt
 have:=Int.emod_def (r * 4294967296 + d) v;rw [this,Int.mul_comm v]

/-- Two digits. -/
theorem two {v r d1 d0 : Int} (hv : 0 < v) :
 qt v r d1 * 4294967296 + qt v ((r * 4294967296 + d1) % v) d0 = ((r * 4294967296 + d1) * 4294967296 + d0) / v ∧
 (((r * 4294967296 + d1) % v) * 4294967296 + d0) % v = ((r * 4294967296 + d1) * 4294967296 + d0) % v:=by
 unfold qt
 generalize hu : r * 4294967296 + d1 = u
 have e:=Int.mul_ediv_add_emod u v
 have e2 : u * 4294967296 + d0 = (u % v * 4294967296 + d0) + v * (u / v * 4294967296):=by
  generalize hA : u / v = A at *
  generalize hR : u % v = R at *
  rw [← e];grind
 rw [e2,Int.add_mul_ediv_left _ _ (by omega),Int.add_mul_emod_self_left]
 constructor
 ·omega
 ·rfl

/-- Both numbers times 2^s. -/
theorem scaled {u y s : Int} (hs : 0 < s) : (u * s) / (y * s) = u / y∧(u * s) % (y * s) = (u % y) * s:=by
 exact ⟨Int.mul_ediv_mul_of_pos_left _ _ hs,by rw [Int.mul_comm u,Int.mul_comm y,Int.mul_emod_mul_of_pos _ _ hs,Int.mul_comm]⟩

/-- The shifted number's two halves. -/
theorem shifted {hi lo P T : Int} (hPT : P * T = 18446744073709551616) (hP : 0 < P) (hT : 0 < T) (h0 : 0 ≤ lo) (h1 : lo < 18446744073709551616) :
 (hi * 18446744073709551616 + lo) * P = (hi * P + lo / T) * 18446744073709551616 + lo * P % 18446744073709551616∧0 ≤ lo / T∧lo / T < P:=by
 have a : lo * P % 18446744073709551616 = (lo % T) * P:=by
  rw [← hPT,Int.mul_comm lo P,Int.mul_emod_mul_of_pos _ _ hP,Int.mul_comm]
 have e:=Int.mul_ediv_add_emod lo T;refine ⟨?_,Int.ediv_nonneg h0 (by omega),?_⟩
 ·rw [a]
  generalize hA : lo / T = A at *
  generalize hR : lo % T = R at *
  rw [← e,← hPT];grind
 ·refine Int.ediv_lt_of_lt_mul hT ?_
  rw [hPT];exact h1
theorem shifted_lt {hi lo y P X L : Int} (h : (hi * 18446744073709551616 + lo) * P = X * 18446744073709551616 + L) (hP : 0 < P) (hL : 0 ≤ L) (hy : hi < y) (h1 : lo < 18446744073709551616) : X < y * P:=by
 have a : (hi * 18446744073709551616 + lo) * P < (y * 18446744073709551616) * P:=Int.mul_lt_mul_of_pos_right (by omega) hP;rw [h] at a
 have e : y * 18446744073709551616 * P = (y * P) * 18446744073709551616:=by grind
 rw [e] at a
 generalize y * P = Y at *
 omega
end Kn
end Go.Proofs.YtogmfebphiglaaaGreat


