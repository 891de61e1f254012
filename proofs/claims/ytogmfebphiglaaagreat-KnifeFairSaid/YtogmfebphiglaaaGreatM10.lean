/- Contract of the reference's Check of cakes. What a valid cake is; package cake's Total, the reference's Total. -/
import Derived.Test.YtogmfebphiglaaaGreatM1
import Derived.LoopTactic
import Derived.IntWalk
import Derived.Deep.QuietTactic
import Derived.BigQuiet
import Derived.Deep.Draws
import Derived.Deep.CutBlock
import Derived.Deep.DeepCutAuto
namespace Go.Proofs.YtogmfebphiglaaaGreat
open Go.RowKit

set_option maxHeartbeats 4000000 in
set_option maxRecDepth 100000 in
theorem rckCheck_any (len : Int) (K : Option Addr) (cuts : List Int) (ck : Nat) (Z : Option Addr) (dens : List Int) (cz : Nat) (w : World) (h : IsCake w len K cuts Z dens) :
 Calls Tryz.prog 50 #[.agg #[.int .i64 len,.slice K cuts.length ck,.slice Z dens.length cz]] w fun e w' => e = .returned (.int .i64 (Ck.chk len cuts dens))∧Below w.heap.size w w':=by
 obtain ⟨⟨l0,l1⟩,⟨hc,hd⟩,iK,iZ⟩:=h
 unfold maxLen at hc hd
 by_cases hg : Ck.great len cuts = true
 ·have e : Ck.chk len cuts dens = 4:=by unfold Ck.chk;rw [if_pos hg]
  rw [e];clear e
  unfold Ck.great at hg
  rw [Bool.or_eq_true,decide_eq_true_eq,decide_eq_true_eq] at hg
  by_cases h1 : 1000 < len
  ·have d1 : decide (1000 < len) = true:=decide_eq_true h1
   clear hg iK iZ
   go_enter Tryz.func50,Tryz.ntmps50
   go_wp2_with fail
   go_ret
   exact ⟨rfl,(Below.refl _ _).alloc (Nat.le_refl _) _⟩
  ·have d1 : decide (1000 < len) = false:=decide_eq_false h1
   have d2 : decide (40 < (cuts.length : Int)) = true:=decide_eq_true (by omega);clear hg iK iZ
   go_enter Tryz.func50,Tryz.ntmps50
   go_wp2_with fail
   go_ret
   exact ⟨rfl,(Below.refl _ _).alloc (Nat.le_refl _) _⟩
 ·have hg' : len ≤ 1000∧cuts.length ≤ 40:=by
   unfold Ck.great at hg
   rw [Bool.or_eq_true,decide_eq_true_eq,decide_eq_true_eq] at hg
   omega
  obtain ⟨hlen,hcut⟩:=hg';have d1 : decide (1000 < len) = false:=decide_eq_false (by omega);have d2 : decide (40 < (cuts.length : Int)) = false:=decide_eq_false (by omega)
  by_cases hs : Ck.shapeBad len cuts dens = true
  ·have e : Ck.chk len cuts dens = 8:=by unfold Ck.chk;rw [if_neg hg,if_pos hs]
   rw [e];clear e hg
   unfold Ck.shapeBad at hs
   rw [Bool.or_eq_true,Bool.or_eq_true,decide_eq_true_eq,decide_eq_true_eq,decide_eq_true_eq] at hs
   by_cases s1 : len < 1
   ·have d3 : decide (len < 1) = true:=decide_eq_true s1
    clear hs iK iZ
    go_enter Tryz.func50,Tryz.ntmps50
    go_upto_region 3 with fail
    refine at_worldQ (fun v => Below w.heap.size w v∧v.cell? ⟨w.heap.size,0,none⟩ = some (.int .i64 len)∧v.cell? ⟨w.heap.size,1,none⟩ = some (.slice K cuts.length ck)∧v.cell? ⟨w.heap.size,2,none⟩ = some (.slice Z dens.length cz)) ⟨(Below.refl _ _).alloc (Nat.le_refl _) _,n30 _ _ _ _ _,n31 _ _ _ _ _,n32 _ _ _ _ _⟩ (fun V hS => ?_);obtain ⟨hbb,y0,y1,y2⟩:=hS
    go_quiet (fail)
    go_wp2_with fail
    go_ret
    exact ⟨rfl,below_drewN hbb _⟩
   ·have d3 : decide (len < 1) = false:=decide_eq_false s1
    by_cases s2 : cuts.length < 2
    ·have d4 : decide ((cuts.length : Int) < 2) = true:=decide_eq_true (by omega)
     clear hs iK iZ
     go_enter Tryz.func50,Tryz.ntmps50
     go_upto_region 3 with fail
     refine at_worldQ (fun v => Below w.heap.size w v∧v.cell? ⟨w.heap.size,0,none⟩ = some (.int .i64 len)∧v.cell? ⟨w.heap.size,1,none⟩ = some (.slice K cuts.length ck)∧v.cell? ⟨w.heap.size,2,none⟩ = some (.slice Z dens.length cz)) ⟨(Below.refl _ _).alloc (Nat.le_refl _) _,n30 _ _ _ _ _,n31 _ _ _ _ _,n32 _ _ _ _ _⟩ (fun V hS => ?_);obtain ⟨hbb,y0,y1,y2⟩:=hS
     go_quiet (fail)
     go_wp2_with fail
     go_ret
     exact ⟨rfl,below_drewN hbb _⟩
    ·have d4 : decide ((cuts.length : Int) < 2) = false:=decide_eq_false (by omega)
     have d5 : ((dens.length : Int) != (cuts.length : Int) - 1) = true:=by rw [bne_iff_ne];omega
     have w1 : IntKind.i64.wrap ((cuts.length : Int) - 1) = (cuts.length : Int) - 1:=IntWalk.i64_in _ (by omega);clear hs iK iZ
     go_enter Tryz.func50,Tryz.ntmps50
     go_upto_region 3 with fail
     refine at_worldQ (fun v => Below w.heap.size w v∧v.cell? ⟨w.heap.size,0,none⟩ = some (.int .i64 len)∧v.cell? ⟨w.heap.size,1,none⟩ = some (.slice K cuts.length ck)∧v.cell? ⟨w.heap.size,2,none⟩ = some (.slice Z dens.length cz)) ⟨(Below.refl _ _).alloc (Nat.le_refl _) _,n30 _ _ _ _ _,n31 _ _ _ _ _,n32 _ _ _ _ _⟩ (fun V hS => ?_);obtain ⟨hbb,y0,y1,y2⟩:=hS
     go_quiet (fail)
     go_wp2_with fail
     go_ret
     exact ⟨rfl,below_drewN hbb _⟩
  ·have hs' : 1 ≤ len∧2 ≤ cuts.length∧dens.length + 1 = cuts.length:=by
    unfold Ck.shapeBad at hs
    rw [Bool.or_eq_true,Bool.or_eq_true,decide_eq_true_eq,decide_eq_true_eq,decide_eq_true_eq] at hs
    omega
   obtain ⟨s1,s2,s3⟩:=hs';have d3 : decide (len < 1) = false:=decide_eq_false (by omega);have d4 : decide ((cuts.length : Int) < 2) = false:=decide_eq_false (by omega)
   have d5 : ((dens.length : Int) != (cuts.length : Int) - 1) = false:=by rw [bne_eq_false_iff_eq];omega
   have d6 : ((dens.length : Int) == (cuts.length : Int) - 1) = true:=by rw [beq_iff_eq];omega
   obtain ⟨bk,ok,rfl,hk⟩:=iK.1 (by omega);obtain ⟨bz,oz,rfl,hz⟩:=iZ.1 (by omega);have IZ:=Lib.hid iZ;have BK:=Lib.hid iK.bd;have BZ:=Lib.hid iZ.bd;obtain ⟨m,hm⟩ : ∃ m,dens.length = m:=⟨_,rfl⟩
   have hn : cuts.length = m + 1:=by omega
   have HE:=Lib.hid (show Ck.endsBad len cuts = (decide (Ck.at_ cuts 0 ≠ 0) || decide (Ck.at_ cuts m ≠ len)) by unfold Ck.endsBad;rw [hn];rfl)
   have hchk : Ck.chk len cuts dens = if Ck.endsBad len cuts then 8 else if Ck.anyBad cuts dens then 8 else if Ck.wanted dens then 0 else 8:=by
    unfold Ck.chk
    rw [if_neg hg,if_neg hs]
   rw [hchk];have HBof:=Lib.hid (fun k (h : k < m) (hb : Ck.badAt cuts dens k = true) => Ck.bad_of (c:=cuts) (d:=dens) (by omega) hb);have HBno:=Lib.hid (fun (h : ∀ j,j < m → Ck.badAt cuts dens j = false) => Ck.bad_not (c:=cuts) (d:=dens) (fun j hj => h j (by omega)));rw [hm] at hz ⊢;rw [hn] at hk ⊢;replace d2 : decide (40 < (m : Int) + 1) = false:=decide_eq_false (by omega);replace d4 : decide ((m : Int) + 1 < 2) = false:=decide_eq_false (by omega)
   replace d5 : ((m : Int) != (m : Int)) = false:=by simp
   clear d6
   have hmm : m ≤ 39:=by omega
   have hm1 : 1 ≤ m:=by omega
   have w1 : IntKind.i64.wrap ((m : Int) + 1 - 1) = (m : Int):=by rw [show (m : Int) + 1 - 1 = m by omega];exact IntWalk.i64_in _ (by omega)
   have x0:=hk 0 (by omega);have x1:=hk m (by omega);rw [Nat.add_zero] at x0;have HK:=Lib.hid hk;have HZ:=Lib.hid hz;have HG:=Lib.hid hg;have b0:=BK.out 0;have b1:=BK.out m
   unfold I64 at b0 b1
   clear hk hz iK iZ hg hs hchk hc hd hcut s2 s3
   by_cases e1 : Ck.at_ cuts 0 = 0
   ·rw [e1] at x0
    have n1 : ((0 : Int) != 0) = false:=rfl
    by_cases e2 : Ck.at_ cuts m = len
    ·have he : Ck.endsBad len cuts = false:=by rw [HE.out,e1,e2];simp
     rw [he,if_neg (by simp)]
     generalize hR : (if Ck.anyBad cuts dens = true then (8 : Int) else if Ck.wanted dens = true then 0 else 8) = R
     have HR:=Lib.hid hR;clear hR;rw [e2] at x1
     have n2 : (len != len) = false:=by simp
     clear he e1 e2 HE b0 b1
     go_enter Tryz.func50,Tryz.ntmps50
     go_upto_region 3 with fail
     refine at_worldQ (fun v => Below w.heap.size w v∧v.cell? ⟨w.heap.size,0,none⟩ = some (.int .i64 len)∧v.cell? ⟨w.heap.size,1,none⟩ = some (.slice (some ⟨bk,ok,none⟩) (m + 1) ck)∧v.cell? ⟨w.heap.size,2,none⟩ = some (.slice (some ⟨bz,oz,none⟩) m cz)∧v.cell? ⟨bk,ok,none⟩ = some (.int .i64 0)∧v.cell? ⟨bk,ok + m,none⟩ = some (.int .i64 len)) ⟨(Below.refl _ _).alloc (Nat.le_refl _) _,n30 _ _ _ _ _,n31 _ _ _ _ _,n32 _ _ _ _ _,cell_alloc x0 _,cell_alloc x1 _⟩ (fun V hS => ?_);obtain ⟨hbb,y0,y1,y2,x0,x1⟩:=hS
     go_quiet (fail)
     (go_wp2_with fail);clear x0 x1 n1 n2 d1 d2 d3 d4 d5 l0 l1 hlen s1;have fy0:=Lib.hid (below_drewN hbb nq);have HWof:=Lib.hid (fun k (h : k < m) (hp : 0 < Ck.at_ dens k) => Ck.wanted_of (d:=dens) (by omega) hp);have HWno:=Lib.hid (fun (h : ∀ j,j < m → Ck.at_ dens j ≤ 0) => Ck.wanted_not (d:=dens) (fun j hj => by have:=h j (by omega);omega))
     go_loopw [3,4] (fun s i v => ∃ (k : Nat) (B : Bool),k ≤ m∧i = .int .i64 k∧s = .bool B∧Below w.heap.size w v∧v.cell? ⟨w.heap.size,0,none⟩ = some (.int .i64 len)∧v.cell? ⟨w.heap.size,1,none⟩ = some (.slice (some ⟨bk,ok,none⟩) (m + 1) ck)∧v.cell? ⟨w.heap.size,2,none⟩ = some (.slice (some ⟨bz,oz,none⟩) m cz)∧Hid (∀ j,j < k → Ck.badAt cuts dens j = false)∧Hid (B = true → Ck.wanted dens = true)∧Hid (B = false → ∀ j,j < k → Ck.at_ dens j ≤ 0)) (fun _ i _ => m - (intOf i).toNat)
     case atStart => exact ⟨0,false,Nat.zero_le _,rfl,rfl,fy0.out,y0,y1,y2,fun j hj => absurd hj (by omega),fun h => (by cases h),fun _ j hj => absurd hj (by omega)⟩
     case round =>
      clear hbb y0 y1 y2 fy0;obtain ⟨k,B,hk,rfl,rfl,hbb,y0,y1,y2,HN,HT,HF⟩:=hrel
      by_cases hlt : k < m
      ·have z0:=keepC hbb (HZ.out k hlt)
       have c0:=keepC hbb (HK.out k (by omega));have c1:=keepC hbb (HK.out (k + 1) (by omega));have HBk:=Lib.hid (show Ck.badAt cuts dens k = (decide (Ck.at_ cuts (k + 1) ≤ Ck.at_ cuts k) || decide (Ck.at_ dens k < 0) || decide (12 < Ck.at_ dens k)) from rfl);have HOf:=Lib.hid (HBof.out k hlt);have HWk:=Lib.hid (HWof.out k hlt)
       have HS:=Lib.hid (fun (hp : Ck.badAt cuts dens k = false) j (hj : j < k + 1) => by
        rcases Nat.lt_or_ge j k with h1 | h1
        ·exact HN.out j h1
        ·obtain rfl : j = k:=by omega
         exact hp)
       have HF2:=Lib.hid (fun (hB : B = false) (hp : Ck.at_ dens k ≤ 0) j (hj : j < k + 1) => by
        rcases Nat.lt_or_ge j k with h1 | h1
        ·exact HF.out hB j h1
        ·obtain rfl : j = k:=by omega
         exact hp)
       have q1:=BK.out k;have q2:=BK.out (k + 1);have q3:=BZ.out k
       unfold I64 at q1 q2 q3
       have a1 : (0 : Int) ≤ (k : Int) + 1:=by omega
       have a2 : (k : Int) < (m : Int):=by omega
       have a3 : (k : Int) + 1 < (m : Int) + 1:=by omega
       have a4 : ((k : Int) + 1).toNat = k + 1:=by omega
       have a5 : IntKind.i64.wrap ((k : Int) + 1) = (k : Int) + 1:=IntWalk.i64_in _ (by omega);clear HBof HBno HZ HK BK BZ IZ HN HG HF HWof HWno
       generalize Ck.at_ cuts (k + 1) = p2 at *
       generalize Ck.at_ cuts k = p1 at *
       generalize Ck.at_ dens k = d at *
       by_cases b1 : p2 ≤ p1
       ·have e1 : decide (p2 ≤ p1) = true:=decide_eq_true b1
        have hb : Ck.anyBad cuts dens = true:=HOf.out (by rw [HBk.out,e1];rfl)
        obtain rfl : R = 8:=by rw [← HR.out,if_pos hb]
        clear HR hb HBk HOf HS b1 HT HWk HF2;(go_wp2_with fail)
        go_quiet (fail)
        go_wp2_with fail
        go_ret
        exact ⟨rfl,below_drewN hbb _⟩
       ·have e1 : decide (p2 ≤ p1) = false:=decide_eq_false b1
        by_cases b2 : d < 0
        ·have e2 : decide (d < 0) = true:=decide_eq_true b2
         have hb : Ck.anyBad cuts dens = true:=HOf.out (by rw [HBk.out,e1,e2];rfl)
         obtain rfl : R = 8:=by rw [← HR.out,if_pos hb]
         clear HR hb HBk HOf HS b1 HT HWk HF2;(go_wp2_with fail)
         go_quiet (fail)
         go_wp2_with fail
         go_ret
         exact ⟨rfl,below_drewN hbb _⟩
        ·have e2 : decide (d < 0) = false:=decide_eq_false b2
         by_cases b3 : 12 < d
         ·have e3 : decide (12 < d) = true:=decide_eq_true b3
          have hb : Ck.anyBad cuts dens = true:=HOf.out (by rw [HBk.out,e1,e2,e3];rfl)
          obtain rfl : R = 8:=by rw [← HR.out,if_pos hb]
          clear HR hb HBk HOf HS b1 HT HWk HF2;(go_wp2_with fail)
          go_quiet (fail)
          go_wp2_with fail
          go_ret
          exact ⟨rfl,below_drewN hbb _⟩
         ·have e3 : decide (12 < d) = false:=decide_eq_false b3
          have HS2:=Lib.hid (HS.out (by rw [HBk.out,e1,e2,e3];rfl));clear HBk HOf HS b1
          rcases B with _ | _
          ·by_cases b4 : 0 < d
           ·have e4 : decide (0 < d) = true:=decide_eq_true b4
            have HW2:=Lib.hid (HWk.out b4);clear HWk HF2 HT b4;(go_wp2_with fail)
            go_quiet (fail)
            go_wp2_with fail
            go_roundw
            case rel => exact ⟨k + 1,true,by omega,by go_num,rfl,below_drewN hbb _,y0,y1,y2,HS2,fun _ => HW2.out,fun h => (by cases h)⟩
            case measure => simp [intOf];omega
           ·have e4 : decide (0 < d) = false:=decide_eq_false b4
            have HF3:=Lib.hid (HF2.out rfl (by omega));clear HWk HF2 HT b4;(go_wp2_with fail)
            go_quiet (fail)
            go_wp2_with fail
            go_roundw
            case rel => exact ⟨k + 1,false,by omega,by go_num,rfl,below_drewN hbb _,y0,y1,y2,HS2,fun h => (by cases h),fun _ => HF3.out⟩
            case measure => simp [intOf];omega
          ·have HT2:=Lib.hid (HT.out rfl)
           clear HWk HF2 HT;(go_wp2_with fail)
           go_quiet (fail)
           go_wp2_with fail
           go_roundw
           case rel => exact ⟨k + 1,true,by omega,by go_num,rfl,below_drewN hbb _,y0,y1,y2,HS2,fun _ => HT2.out,fun h => (by cases h)⟩
           case measure => simp [intOf];omega
      ·obtain rfl : k = m:=by omega
       have hb : Ck.anyBad cuts dens = false:=HBno.out HN.out;have hR2:=HR.out;rw [hb,if_neg (by simp)] at hR2
       rcases B with _ | _
       ·have hw : Ck.wanted dens = false:=HWno.out (HF.out rfl)
        obtain rfl : R = 8:=by rw [← hR2,hw];rfl
        clear HR hb HBof HBno HZ HK BK BZ HN HG IZ hR2 hw HT HF HWof HWno;(go_wp2_with fail)
        go_ret
        exact ⟨rfl,hbb⟩
       ·have hw : Ck.wanted dens = true:=HT.out rfl
        obtain rfl : R = 0:=by rw [← hR2,hw];rfl
        clear HR hb HBof HBno HZ HK BK BZ HN HG IZ hR2 hw HT HF HWof HWno;(go_wp2_with fail)
        go_ret
        exact ⟨rfl,hbb⟩
    ·have he : Ck.endsBad len cuts = true:=by rw [HE.out];simp [e2]
     rw [he,if_pos rfl]
     have n2 : (Ck.at_ cuts m != len) = true:=by rw [bne_iff_ne];exact e2
     generalize Ck.at_ cuts m = y at *
     clear he e1 HE e2
     go_enter Tryz.func50,Tryz.ntmps50
     go_upto_region 3 with fail
     refine at_worldQ (fun v => Below w.heap.size w v∧v.cell? ⟨w.heap.size,0,none⟩ = some (.int .i64 len)∧v.cell? ⟨w.heap.size,1,none⟩ = some (.slice (some ⟨bk,ok,none⟩) (m + 1) ck)∧v.cell? ⟨w.heap.size,2,none⟩ = some (.slice (some ⟨bz,oz,none⟩) m cz)∧v.cell? ⟨bk,ok,none⟩ = some (.int .i64 0)∧v.cell? ⟨bk,ok + m,none⟩ = some (.int .i64 y)) ⟨(Below.refl _ _).alloc (Nat.le_refl _) _,n30 _ _ _ _ _,n31 _ _ _ _ _,n32 _ _ _ _ _,cell_alloc x0 _,cell_alloc x1 _⟩ (fun V hS => ?_);obtain ⟨hbb,y0,y1,y2,x0,x1⟩:=hS
     go_quiet (fail)
     go_wp2_with fail
     go_ret
     exact ⟨rfl,below_drewN hbb _⟩
   ·have he : Ck.endsBad len cuts = true:=by rw [HE.out];simp [e1]
    rw [he,if_pos rfl]
    have n1 : (Ck.at_ cuts 0 != 0) = true:=by rw [bne_iff_ne];exact e1
    generalize Ck.at_ cuts 0 = y at *
    clear he e1 HE x1
    go_enter Tryz.func50,Tryz.ntmps50
    go_upto_region 3 with fail
    refine at_worldQ (fun v => Below w.heap.size w v∧v.cell? ⟨w.heap.size,0,none⟩ = some (.int .i64 len)∧v.cell? ⟨w.heap.size,1,none⟩ = some (.slice (some ⟨bk,ok,none⟩) (m + 1) ck)∧v.cell? ⟨w.heap.size,2,none⟩ = some (.slice (some ⟨bz,oz,none⟩) m cz)∧v.cell? ⟨bk,ok,none⟩ = some (.int .i64 y)) ⟨(Below.refl _ _).alloc (Nat.le_refl _) _,n30 _ _ _ _ _,n31 _ _ _ _ _,n32 _ _ _ _ _,cell_alloc x0 _⟩ (fun V hS => ?_);obtain ⟨hbb,y0,y1,y2,x0⟩:=hS
    go_quiet (fail)
    go_wp2_with fail
    go_ret
    exact ⟨rfl,below_drewN hbb _⟩
end Go.Proofs.YtogmfebphiglaaaGreat


namespace Go.Proofs.YtogmfebphiglaaaGreat
open Go.RowKit
namespace Ck
structure Good (len : Int) (c d : List Int) : Prop where
 len0 : 1 ≤ len
 len1 : len ≤ 1000
 shape : d.length + 1 = c.length∧1 ≤ d.length∧c.length ≤ 40
 first : at_ c 0 = 0
 last : at_ c d.length = len
 step : ∀ k,k < d.length → at_ c k < at_ c (k + 1)∧0 ≤ at_ d k∧at_ d k ≤ 12
 some_ : wanted d = true
theorem chk_good {len : Int} {c d : List Int} (h : chk len c d = 0) : Good len c d:=by
 unfold chk at h
 split at h
 ·omega
 ·rename_i hg
  split at h
  ·omega
  ·rename_i hs
   split at h
   ·omega
   ·rename_i he
    split at h
    ·omega
    ·rename_i hb
     split at h
     ·rename_i hw
      simp only [great,Bool.or_eq_true,decide_eq_true_eq,not_or,Int.not_lt,Nat.not_lt] at hg
      simp only [shapeBad,Bool.or_eq_true,decide_eq_true_eq,not_or,Int.not_lt,Nat.not_lt,ne_eq,Decidable.not_not] at hs
      simp only [endsBad,Bool.or_eq_true,decide_eq_true_eq,not_or,ne_eq,Decidable.not_not] at he
      have hb' : ∀ j,j < d.length → badAt c d j = false:=by
       intro j hj
       rcases hq : badAt c d j with _ | _
       ·rfl
       ·exact absurd (bad_of hj hq) hb
      refine ⟨by omega,by omega,⟨by omega,by omega,by omega⟩,he.1,?_,?_,hw⟩
      ·rw [show d.length = c.length - 1 by omega];exact he.2
      ·intro k hk
       have:=hb' k hk
       simp only [badAt,Bool.or_eq_false_iff,decide_eq_false_iff_not,Int.not_le,Int.not_lt] at this
       omega
     ·omega
theorem Good.mono {len : Int} {c d : List Int} (h : Good len c d) (i j : Nat) (hij : i ≤ j) (hj : j ≤ d.length) : at_ c i ≤ at_ c j:=by
 induction j with
 | zero => rw [show i = 0 by omega];exact Int.le_refl _
 | succ j ih =>
  rcases Nat.lt_or_ge i (j + 1) with g | g
  ·have:=ih (by omega) (by omega)
   have:=(h.step j (by omega)).1
   omega
  ·rw [show i = j + 1 by omega];exact Int.le_refl _
theorem Good.range {len : Int} {c d : List Int} (h : Good len c d) (k : Nat) (hk : k ≤ d.length) : 0 ≤ at_ c k∧at_ c k ≤ 1000:=by
 have a:=h.mono 0 k (by omega) hk;have b:=h.mono k d.length hk (Nat.le_refl _);have:=h.first;have:=h.last;have:=h.len1
 omega
/-- The value of the first intervals. -/
def tot (c d : List Int) : Nat → Int
 | 0 => 0
 | k + 1 => tot c d k + at_ d k * (at_ c (k + 1) - at_ c k)
theorem tot_bd {len : Int} {c d : List Int} (h : Good len c d) (k : Nat) (hk : k ≤ d.length) : 0 ≤ tot c d k∧tot c d k ≤ 12 * at_ c k:=by
 induction k with
 | zero => rw [h.first];exact ⟨Int.le_refl _,Int.le_refl _⟩
 | succ k ih =>
  have i:=ih (by omega);have s:=h.step k (by omega);have p0 : 0 ≤ at_ d k * (at_ c (k + 1) - at_ c k):=Int.mul_nonneg (by omega) (by omega);have p1 : at_ d k * (at_ c (k + 1) - at_ c k) ≤ 12 * (at_ c (k + 1) - at_ c k):=Int.mul_le_mul_of_nonneg_right (by omega) (by omega)
  unfold tot
  omega
/-- Total, error. -/
def totS (len : Int) (c d : List Int) : Int × Int:=if chk len c d = 0 then (tot c d d.length,0) else (0,chk len c d)
end Ck

set_option maxHeartbeats 2000000 in
set_option maxRecDepth 100000 in
theorem rWhole_any (len : Int) (K : Option Addr) (cuts : List Int) (ck : Nat) (Z : Option Addr) (dens : List Int) (cz : Nat) (w : World) (h : IsCake w len K cuts Z dens) (hG : Ck.Good len cuts dens) :
 Calls Tryz.prog 75 #[.agg #[.int .i64 len,.slice K cuts.length ck,.slice Z dens.length cz]] w fun e w' => e = .returned (.int .i64 (Ck.tot cuts dens dens.length))∧Below w.heap.size w w':=by
 obtain ⟨⟨l0,l1⟩,_,iK,iZ⟩:=h;obtain ⟨bk,ok,rfl,hk⟩:=iK.1 (by have:=hG.shape;omega);obtain ⟨bz,oz,rfl,hz⟩:=iZ.1 (by have:=hG.shape;omega);obtain ⟨m,hm⟩ : ∃ m,dens.length = m:=⟨_,rfl⟩;have hsh:=hG.shape
 have hn : cuts.length = m + 1:=by omega
 have hmm : m ≤ 39:=by omega
 have hm1 : 1 ≤ m:=by omega
 have HG:=Lib.hid hG;rw [hm] at hz;rw [hn] at hk;rw [hm,hn];have HK:=Lib.hid hk;have HZ:=Lib.hid hz;clear hk hz iK iZ hG hsh
 go_enter Tryz.func75,Tryz.ntmps75
 go_upto_region 3 with fail
 refine at_worldQ (fun v => Below w.heap.size w v∧v.cell? ⟨w.heap.size,0,none⟩ = some (.int .i64 len)∧v.cell? ⟨w.heap.size,1,none⟩ = some (.slice (some ⟨bk,ok,none⟩) (m + 1) ck)∧v.cell? ⟨w.heap.size,2,none⟩ = some (.slice (some ⟨bz,oz,none⟩) m cz)) ⟨(Below.refl _ _).alloc (Nat.le_refl _) _,n30 _ _ _ _ _,n31 _ _ _ _ _,n32 _ _ _ _ _⟩ (fun V hS => ?_);obtain ⟨hbb,y0,y1,y2⟩:=hS
 go_loopw [3,4] (fun t i v => ∃ k : Nat,k ≤ m∧i = .int .i64 k∧t = .int .i64 (Ck.tot cuts dens k)∧Below w.heap.size w v∧v.cell? ⟨w.heap.size,0,none⟩ = some (.int .i64 len)∧v.cell? ⟨w.heap.size,1,none⟩ = some (.slice (some ⟨bk,ok,none⟩) (m + 1) ck)∧v.cell? ⟨w.heap.size,2,none⟩ = some (.slice (some ⟨bz,oz,none⟩) m cz)) (fun _ i _ => m - (intOf i).toNat)
 case atStart => exact ⟨0,Nat.zero_le _,rfl,rfl,hbb,y0,y1,y2⟩
 case round =>
  clear hbb y0 y1 y2;obtain ⟨k,hk,rfl,rfl,hbb,y0,y1,y2⟩:=hrel
  by_cases hlt : k < m
  ·have z0:=keepC hbb (HZ.out k hlt)
   have c0:=keepC hbb (HK.out k (by omega));have c1:=keepC hbb (HK.out (k + 1) (by omega));have r0:=HG.out.range k (by omega);have r1:=HG.out.range (k + 1) (by omega);have hst:=HG.out.step k (by omega);have htb:=Ck.tot_bd HG.out k (by omega);have HT:=Lib.hid (show Ck.tot cuts dens (k + 1) = Ck.tot cuts dens k + Ck.at_ dens k * (Ck.at_ cuts (k + 1) - Ck.at_ cuts k) from rfl);have hp0 : 0 ≤ Ck.at_ dens k * (Ck.at_ cuts (k + 1) - Ck.at_ cuts k):=Int.mul_nonneg (by omega) (by omega);have hp1 : Ck.at_ dens k * (Ck.at_ cuts (k + 1) - Ck.at_ cuts k) ≤ 12 * 1000:=Int.mul_le_mul (by omega) (by omega) (by omega) (by omega)
   have a1 : (0 : Int) ≤ (k : Int) + 1:=by omega
   have a2 : (k : Int) < (m : Int):=by omega
   have a3 : (k : Int) + 1 < (m : Int) + 1:=by omega
   have a4 : ((k : Int) + 1).toNat = k + 1:=by omega
   have a5 : IntKind.i64.wrap ((k : Int) + 1) = (k : Int) + 1:=IntWalk.i64_in _ (by omega)
   generalize Ck.tot cuts dens k = T at *
   generalize Ck.at_ cuts (k + 1) = p2 at *
   generalize Ck.at_ cuts k = p1 at *
   generalize Ck.at_ dens k = d at *
   have w1 : IntKind.i64.wrap (p2 - p1) = p2 - p1:=IntWalk.i64_in _ (by omega);have w2 : IntKind.i64.wrap (d * (p2 - p1)) = d * (p2 - p1):=IntWalk.i64_in _ (by omega);have w3 : IntKind.i64.wrap (T + d * (p2 - p1)) = T + d * (p2 - p1):=IntWalk.i64_in _ (by omega);clear HK HZ HG;(go_wp2_with fail)
   go_quiet (fail)
   go_wp2_with fail
   go_roundw
   case rel => exact ⟨k + 1,by omega,by go_num,by rw [HT.out],below_drewN hbb _,y0,y1,y2⟩
   case measure => simp [intOf];omega
  ·obtain rfl : k = m:=by omega
   clear HK HZ HG hn hm;(go_wp2_with fail)
   go_ret
   exact ⟨rfl,hbb⟩

set_option maxHeartbeats 2000000 in
set_option maxRecDepth 100000 in
theorem ckTotal_any (len : Int) (K : Option Addr) (cuts : List Int) (ck : Nat) (Z : Option Addr) (dens : List Int) (cz : Nat) (w : World) (h : IsCake w len K cuts Z dens) :
 Calls Tryz.prog 122 #[.agg #[.int .i64 len,.slice K cuts.length ck,.slice Z dens.length cz]] w fun e w' => e = .returned (.tuple #[.int .i64 (Ck.totS len cuts dens).1,.int .i64 (Ck.totS len cuts dens).2])∧Below w.heap.size w w':=by
 have cc:=fun v (hb : Below w.heap.size w v) => ckCheck_any len K cuts ck Z dens cz v (h.keep hb)
 by_cases hc : Ck.chk len cuts dens = 0
 ·have hG:=Ck.chk_good hc
  have e : Ck.totS len cuts dens = (Ck.tot cuts dens dens.length,0):=by unfold Ck.totS;rw [if_pos hc]
  rw [e];rw [hc] at cc;have CC:=Lib.hid cc;obtain ⟨⟨l0,l1⟩,_,iK,iZ⟩:=h;clear cc hc e;obtain ⟨bk,ok,rfl,hk⟩:=iK.1 (by have:=hG.shape;omega);obtain ⟨bz,oz,rfl,hz⟩:=iZ.1 (by have:=hG.shape;omega);obtain ⟨m,hm⟩ : ∃ m,dens.length = m:=⟨_,rfl⟩;have hsh:=hG.shape
  have hn : cuts.length = m + 1:=by omega
  have hmm : m ≤ 39:=by omega
  have hm1 : 1 ≤ m:=by omega
  have HG:=Lib.hid hG;rw [hm] at hz;rw [hn] at hk;have n1 : (((0 : Int)) != 0) = false:=rfl;rw [hm,hn] at CC ⊢;have HK:=Lib.hid hk;have HZ:=Lib.hid hz;clear hk hz iK iZ hG hsh
  go_enter Tryz.func122,Tryz.ntmps122
  (go_wp2_with fail);refine (CC.out _ ((Below.refl _ _).alloc (Nat.le_refl _) _)).mono ?_;rintro e w1 ⟨rfl,hb1⟩;have y0 : w1.cell? ⟨w.heap.size,0,none⟩ = some (.int .i64 len):=keepC hb1 (n30 _ _ _ _ _);have y1 : w1.cell? ⟨w.heap.size,1,none⟩ = some (.slice (some ⟨bk,ok,none⟩) (m + 1) ck):=keepC hb1 (n31 _ _ _ _ _);have y2 : w1.cell? ⟨w.heap.size,2,none⟩ = some (.slice (some ⟨bz,oz,none⟩) m cz):=keepC hb1 (n32 _ _ _ _ _);have hbb : Below w.heap.size w w1:=keepB ((Below.refl _ _).alloc (Nat.le_refl _) _) hb1;clear hb1 CC;(go_wp2_with fail)
  go_loopw [5,6,7,16] (fun t _ _ i v => ∃ k : Nat,k ≤ m∧i = .int .i64 k∧t = .int .i64 (Ck.tot cuts dens k)∧Below w.heap.size w v∧v.cell? ⟨w.heap.size,0,none⟩ = some (.int .i64 len)∧v.cell? ⟨w.heap.size,1,none⟩ = some (.slice (some ⟨bk,ok,none⟩) (m + 1) ck)∧v.cell? ⟨w.heap.size,2,none⟩ = some (.slice (some ⟨bz,oz,none⟩) m cz)) (fun _ _ _ i _ => m - (intOf i).toNat)
  case atStart => exact ⟨0,Nat.zero_le _,rfl,rfl,hbb,y0,y1,y2⟩
  case round =>
   clear hbb y0 y1 y2;obtain ⟨k,hk,rfl,rfl,hbb,y0,y1,y2⟩:=hrel
   by_cases hlt : k < m
   ·have z0:=keepC hbb (HZ.out k hlt)
    have c0:=keepC hbb (HK.out k (by omega));have c1:=keepC hbb (HK.out (k + 1) (by omega));have r0:=HG.out.range k (by omega);have r1:=HG.out.range (k + 1) (by omega);have hst:=HG.out.step k (by omega);have htb:=Ck.tot_bd HG.out k (by omega);have HT:=Lib.hid (show Ck.tot cuts dens (k + 1) = Ck.tot cuts dens k + Ck.at_ dens k * (Ck.at_ cuts (k + 1) - Ck.at_ cuts k) from rfl);have hp0 : 0 ≤ Ck.at_ dens k * (Ck.at_ cuts (k + 1) - Ck.at_ cuts k):=Int.mul_nonneg (by omega) (by omega);have hp1 : Ck.at_ dens k * (Ck.at_ cuts (k + 1) - Ck.at_ cuts k) ≤ 12 * 1000:=Int.mul_le_mul (by omega) (by omega) (by omega) (by omega)
    have a1 : (0 : Int) ≤ (k : Int) + 1:=by omega
    have a2 : (k : Int) < (m : Int):=by omega
    have a3 : (k : Int) + 1 < (m : Int) + 1:=by omega
    have a4 : ((k : Int) + 1).toNat = k + 1:=by omega
    have a5 : IntKind.i64.wrap ((k : Int) + 1) = (k : Int) + 1:=IntWalk.i64_in _ (by omega)
    generalize Ck.tot cuts dens k = T at *
    generalize Ck.at_ cuts (k + 1) = p2 at *
    generalize Ck.at_ cuts k = p1 at *
    generalize Ck.at_ dens k = d at *
    have w1 : IntKind.i64.wrap (p2 - p1) = p2 - p1:=IntWalk.i64_in _ (by omega);have w2 : IntKind.i64.wrap (d * (p2 - p1)) = d * (p2 - p1):=IntWalk.i64_in _ (by omega);have w3 : IntKind.i64.wrap (T + d * (p2 - p1)) = T + d * (p2 - p1):=IntWalk.i64_in _ (by omega);clear HK HZ HG;(go_wp2_with fail)
    go_quiet (fail)
    go_wp2_with fail
    go_roundw
    case rel => exact ⟨k + 1,by omega,by go_num,by rw [HT.out],below_drewN hbb _,y0,y1,y2⟩
    case measure => simp [intOf];omega
   ·obtain rfl : k = m:=by omega
    clear HK HZ HG hn hm;(go_wp2_with fail)
    go_ret2
    exact ⟨rfl,hbb⟩
 ·have e : Ck.totS len cuts dens = (0,Ck.chk len cuts dens):=by unfold Ck.totS;rw [if_neg hc]
  rw [e]
  generalize Ck.chk len cuts dens = c at *
  have n1 : (c != 0) = true:=by rw [bne_iff_ne];exact hc
  have CC:=Lib.hid cc;clear cc hc e h
  go_enter Tryz.func122,Tryz.ntmps122
  (go_wp2_with fail);refine (CC.out _ ((Below.refl _ _).alloc (Nat.le_refl _) _)).mono ?_;rintro e w1 ⟨rfl,hb1⟩;have hbb : Below w.heap.size w w1:=keepB ((Below.refl _ _).alloc (Nat.le_refl _) _) hb1;clear hb1 CC;(go_wp2_with fail)
  go_ret2
  exact ⟨rfl,hbb⟩

end Go.Proofs.YtogmfebphiglaaaGreat


