/- Package proof: Worth. -/
import Derived.Test.YtogmfebphiglaaaGreatHg
import Derived.Deep.OwnRows
import Derived.Deep.AppendLies
namespace Go.Proofs.YtogmfebphiglaaaGreat
open Go.RowKit
theorem row_grown {W W' : World} {row : Option Nat} {B : Nat} {e : TypeId} {sz n : Nat} {v : Value} {cs : List Value} (h : W.ownsRow B e sz v n cs) (hg : W.grownBy W' row) (hne : ∀ b,v.ownBlock = some b → row ≠ some b) : W'.ownsRow B e sz v n cs :=
 World.ownsRow.kept (row:=row) h hg (by
  cases hv : v.ownBlock with
  | none => exact .inl rfl
  | some b => exact .inr (fun e => hne b hv e.symm))
theorem rows_make (n : Nat) (hn : n ≤ 1000) (v : World) : Sem.run Tryz.prog (Instr.makeSlice 61 (.int .i64 (n : Int)) (.int .i64 (n : Int))) v = .ok (.slice (some ⟨v.heap.size,0,none⟩) n n) (v.alloc (.cells (Array.replicate n (Value.slice none 0 0)) 68)):=by
 have h:=run_make_row' (P:=Tryz.prog) 61 68 (.slice none 0 0) 24 (by kernel_rfl) (by kernel_rfl) rfl .i64 .i64 n (by omega) (by omega) v
 have e : madeCells #[Value.slice none 0 0] n = Array.replicate n (Value.slice none 0 0):=by
  apply Array.ext
  ·simp [madeCells]
  ·intro i h1 h2
   simp [madeCells,Nat.mod_one]
 rw [e] at h;exact h
/-- A table that is being made: its rows are the function's own. -/
structure Tb (W : World) (g n : Nat) (R : Nat → Value) (C : Nat → List (Int × Int)) : Prop where
 bk : BK W g ((List.range n).map R)
 rw : ∀ k,k < n → W.ownsRow (g + 1) 31 2 (R k) (C k).length (Pf.prs (C k))
 ds : ∀ k j,k < n → j < n → k ≠ j → ∀ b,(R k).ownBlock = some b → (R j).ownBlock ≠ some b
theorem Tb.keep {W W' : World} {g n : Nat} {R : Nat → Value} {C : Nat → List (Int × Int)} (h : Tb W g n R C) (hb : Below W.heap.size W W') : Tb W' g n R C :=
 ⟨h.bk.keep hb,fun k hk => row_keep (h.rw k hk) hb,h.ds⟩
theorem Tb.at_ {W : World} {g n : Nat} {R : Nat → Value} {C : Nat → List (Int × Int)} (h : Tb W g n R C) {k : Nat} (hk : k < n) : W.cell? ⟨g,k,none⟩ = some (R k)∧W.frozen? ⟨g,k,none⟩ = false:=by
 have e : ((List.range n).map R)[k]? = some (R k):=by simp [hk]
 exact ⟨h.bk.c k e,h.bk.f k e⟩
theorem Tb.new (w : World) (n : Nat) : Tb (w.alloc (.cells (Array.replicate n (Value.slice none 0 0)) 68)) w.heap.size n (fun _ => .slice none 0 0) (fun _ => []):=by
 refine ⟨?_,fun k hk => World.ownsRow_nil _ _ _ _,fun k j _ _ _ b hb => by simp [Value.ownBlock] at hb⟩
 have e : (List.range n).map (fun _ => Value.slice none 0 0) = List.replicate n (.slice none 0 0):=List.ext_getElem (by simp) fun k h1 h2 => by simp
 rw [e,← List.toArray_replicate];exact BK.new _ _ _
theorem Tb.app {W W2 : World} {g n i gr cap : Nat} {R : Nat → Value} {C : Nat → List (Int × Int)} {r : Int × Int} (h : Tb W g n R C) (hi : i < n) (hg : W.grownBy W2 (R i).ownBlock)
 (hown : W2.ownsRow (g + 1) 31 2 (.slice (some ⟨gr,0,none⟩) ((C i).length + 1) cap) ((C i).length + 1) (Pf.prs (C i) ++ [.int .i64 r.1,.int .i64 r.2])) (hat : (R i).ownBlock = some gr ∨ W.heap.size ≤ gr) :
 Tb (W2.setCell ⟨g,i,none⟩ (.slice (some ⟨gr,0,none⟩) ((C i).length + 1) cap)) g n (fun k => if k = i then .slice (some ⟨gr,0,none⟩) ((C i).length + 1) cap else R k) (fun k => if k = i then C i ++ [r] else C k):=by
 have hne : (R i).ownBlock ≠ some g:=fun e => by
  have:=World.ownsRow.lt (h.rw i hi) g e
  omega
 have hm:=(Mid.refl (g + 1) W2).set (p:=g) (o:=i) (.inl (by omega)) (.slice (some ⟨gr,0,none⟩) ((C i).length + 1) cap);refine ⟨?_,fun k hk => ?_,fun k j hk hj hkj b hb => ?_⟩
 ·have hb:=(h.bk.grown hg hne).set i (.slice (some ⟨gr,0,none⟩) ((C i).length + 1) cap)
  have e : ((List.range n).map R).set i (.slice (some ⟨gr,0,none⟩) ((C i).length + 1) cap) = (List.range n).map (fun k => if k = i then .slice (some ⟨gr,0,none⟩) ((C i).length + 1) cap else R k):=List.ext_getElem (by simp) fun k h1 h2 => by
   simp only [List.getElem_set,List.getElem_map,List.getElem_range]
   by_cases e : i = k
   ·rw [if_pos e,if_pos e.symm]
   ·rw [if_neg e,if_neg (fun x => e x.symm)]
  rw [e] at hb;exact hb
 ·by_cases e : k = i
  ·subst e
   rw [if_pos rfl,if_pos rfl,List.length_append,Pf.prs_snoc];exact row_mid hown hm
  ·rw [if_neg e,if_neg e]
   exact row_mid (row_grown (h.rw k hk) hg (fun b hb => h.ds k i hk hi e b hb)) hm
 ·by_cases e1 : k = i
  ·subst e1
   rw [if_pos rfl] at hb;rw [if_neg (fun e => hkj e.symm)]
   have hb : gr = b:=by simpa [Value.ownBlock] using hb
   subst hb
   rcases hat with h1 | h1
   ·exact h.ds k j hk hj hkj _ h1
   ·exact fun e => by
     have:=(World.ownsRow.lt (h.rw j hj) _ e).2
     omega
  ·rw [if_neg e1] at hb
   by_cases e2 : j = i
   ·subst e2
    rw [if_pos rfl];intro e
    have e : gr = b:=by simpa [Value.ownBlock] using e
    subst e
    rcases hat with h1 | h1
    ·exact h.ds j k hj hk (fun x => hkj x.symm) _ h1 hb
    ·have:=(World.ownsRow.lt (h.rw k hk) _ hb).2
     omega
   ·rw [if_neg e2]
    exact h.ds k j hk hj hkj b hb
namespace Pf
/-- A row out of a slice value. -/
def rwOf (v : Value) (l : List (Int × Int)) : RwR:=match v with
 | .slice A _ cap => ⟨A,cap,l⟩
 | _ => ⟨none,0,l⟩
end Pf
/-- The table that was made, as one that lies in memory. -/
theorem Tb.wsB {W : World} {g n : Nat} {R : Nat → Value} {C : Nat → List (Int × Int)} (h : Tb W g n R C) : WsB W g W.heap.size (some ⟨g,0,none⟩) ((List.range n).map fun k => Pf.rwOf (R k) (C k)):=by
 have hr : ∀ k,k < n → Pf.rat ((List.range n).map fun k => Pf.rwOf (R k) (C k)) k = Pf.rwOf (R k) (C k):=fun k hk => by
  unfold Pf.rat
  simp [hk]
 refine ⟨⟨g,0,fun _ => ⟨⟨Nat.le_refl _,h.bk.lt⟩,rfl⟩,fun k hk => ?_⟩,fun k hk => ?_⟩
 ·have hk : k < n:=by simpa using hk
  obtain ⟨A,cap,hv,-⟩:=row_cap (h.rw k hk);rw [hr k hk,Nat.zero_add,(h.at_ hk).1,hv]
  rfl
 ·have hk : k < n:=by simpa using hk
  have hrow:=h.rw k hk;obtain ⟨A,cap,hv,-⟩:=row_cap hrow;rw [hr k hk];rw [hv] at hrow ⊢;exact (rsB_row hrow rfl).mono (Nat.le_succ _) (Nat.le_refl _)
namespace Pf
section
variable (D : List CkD) (ps : List PcR)
/-- What a piece is worth for an agent, and the error. -/
def wv (a b : Nat) : Int × Int × Int:=Pc.sumF (Pc.wM (Ak.dAt D a).2.1 (Ak.dAt D a).2.2) (pat ps b).L 0 1
def wp (a b : Nat) : Int × Int:=((wv D ps a b).1,(wv D ps a b).2.1)
/-- The rows of the table, while the agent a is at the piece j. -/
def Cf (n a j k : Nat) : List (Int × Int):=if k < a then (List.range n).map (wp D ps k) else if k = a then (List.range j).map (wp D ps a) else []
theorem Cf_step (n a j : Nat) : (fun k => if k = a then Cf D ps n a j a ++ [wp D ps a j] else Cf D ps n a j k) = Cf D ps n a (j + 1):=by
 funext k
 unfold Cf
 by_cases h : k = a
 ·subst h
  rw [if_pos rfl,if_neg (by omega),if_pos rfl,if_neg (by omega),if_pos rfl,List.range_succ,List.map_append]
  rfl
 ·rw [if_neg h]
  by_cases h2 : k < a
  ·rw [if_pos h2,if_pos h2]
  ·rw [if_neg h2,if_neg h,if_neg h2,if_neg h]
theorem Cf_next (n a : Nat) : Cf D ps n a n = Cf D ps n (a + 1) 0:=by
 funext k
 unfold Cf
 by_cases h : k < a
 ·rw [if_pos h,if_pos (by omega)]
 ·by_cases h2 : k = a
  ·subst h2
   rw [if_neg h,if_pos rfl,if_pos (by omega)]
  ·rw [if_neg h,if_neg h2,if_neg (by omega)]
   split <;> rfl
theorem Cf_zero (n : Nat) : Cf D ps n 0 0 = fun _ => []:=by
 funext k
 unfold Cf
 rw [if_neg (by omega)]
 split <;> rfl
theorem Cf_len (n a j : Nat) : (Cf D ps n a j a).length = j:=by
 unfold Cf
 rw [if_neg (by omega),if_pos rfl]
 simp
end
end Pf
/-- What Worth hands back: a table, or the error of a worth. -/
def WtQ (D : List CkD) (ps : List Pf.PcR) (n : Nat) (w : World) (e : Ending) (w' : World) : Prop:=Below w.heap.size w w' ∧
 ((∃ a b,a < n∧b < n∧(Pf.wv D ps a b).2.2 ≠ 0∧e = .returned (.tuple #[.slice none 0 0,.int .i64 (Pf.wv D ps a b).2.2])) ∨
   ((∀ a b,a < n → b < n → (Pf.wv D ps a b).2.2 = 0)∧∃ (g : Nat) (ws : List Pf.RwR),e = .returned (.tuple #[.slice (some ⟨g,0,none⟩) n n,.int .i64 0])∧WsB w' w.heap.size w'.heap.size (some ⟨g,0,none⟩) ws∧ws.length = n∧∀ k,k < n → (Pf.rat ws k).l = (List.range n).map (Pf.wp D ps k)))
theorem rowInfo : (Tryz.prog.info? 31).map (fun i => (i.zero,i.size,i.bytes)) = some (some (.agg #[.int .i64 0,.int .i64 0]),2,16):=by kernel_rfl
set_option linter.unusedSimpArgs false in
set_option maxHeartbeats 8000000 in
set_option maxRecDepth 100000 in
theorem pfworth_any (A Pp : Option Addr) (ca cp : Nat) (cs : List CkR) (ps : List Pf.PcR) (w : World) (h : IsCs w A cs) (hp : IsPs w Pp ps) (g0 : DvG (cs.map Ak.dat) ps) :
 Calls Tryz.prog 110 #[.slice A cs.length ca,.agg #[.slice Pp ps.length cp]] w (WtQ (cs.map Ak.dat) ps cs.length w):=by
 have hgd:=Ak.chkS_good g0.ck;have hl0:=hgd.l0;have hl6:=hgd.l1;rw [List.length_map] at hl0 hl6
 have ck:=fun v (hv : Below w.heap.size w v) => pfcheck_any A Pp ca cp cs ps v (h.keep hv) (hp.keep hv) g0
 have hpl:=g0.pl;rw [List.length_map] at hpl
 have pw : ∀ a b,a < cs.length → b < cs.length → ∀ v,Below w.heap.size w v → Calls Tryz.prog 149 #[.agg #[.int .i64 (Ak.cat cs a).len,.slice (Ak.cat cs a).K (Ak.cat cs a).cuts.length (Ak.cat cs a).ck,.slice (Ak.cat cs a).Z (Ak.cat cs a).dens.length (Ak.cat cs a).cz],.slice (Pf.pat ps b).A (Pf.pat ps b).L.length (Pf.pat ps b).cap] v fun e w' => e = .returned (.tuple #[.agg #[.int .i64 (Pf.wv (cs.map Ak.dat) ps a b).1,.int .i64 (Pf.wv (cs.map Ak.dat) ps a b).2.1],.int .i64 (Pf.wv (cs.map Ak.dat) ps a b).2.2])∧Below v.heap.size v w':=fun a b ha hb v hv => by
  have hc:=Pf.ck_at g0.ck (j:=a) (by rw [List.length_map];exact ha)
  unfold Pf.wv
  rw [Ak.dAt_map cs ha] at hc ⊢;exact worth_good (Ak.cat cs a).len (Ak.cat cs a).K (Ak.cat cs a).cuts (Ak.cat cs a).ck (Ak.cat cs a).Z (Ak.cat cs a).dens (Ak.cat cs a).cz (Pf.pat ps b).A (Pf.pat ps b).cap (Pf.pat ps b).L v ((h.all _ (Ak.cat_mem ha)).keep hv) hc.1 (g0.go b (by omega)) (fun r hr => by have:=g0.inn b (by omega) r hr;rw [← hc.2] at this;exact this) ((hp.all b (by omega)).keep hv)
 obtain ⟨cb,co,hA,hcl⟩:=h.at_;obtain rfl:=hA hl0;obtain ⟨⟨pb,po,hP,hpc⟩,-⟩:=hp;obtain rfl:=hP (by omega);rw [hpl] at ck hpc ⊢
 generalize cs.map Ak.dat = D at *
 obtain ⟨n,hn⟩ : ∃ z,cs.length = z:=⟨_,rfl⟩;rw [hn] at ck pw hcl hpc hl0 hl6 ⊢;have CKK:=Lib.hid ck;have PW:=Lib.hid pw;have HCL:=Lib.hid hcl;have HPC:=Lib.hid hpc;obtain ⟨i0,hi0,hz0,hz1,hz2⟩:=info_parts rowInfo;have HIN:=Lib.hid hi0;have HIZ:=Lib.hid hz0;have HS1:=Lib.hid hz1;have HS2:=Lib.hid hz2;have hmk:=rows_make n (by omega);clear ck pw hcl hpc hn hgd g0 h hA hP hpl hi0 hz0 hz1 hz2
 unfold WtQ
 go_enter Tryz.func110,Tryz.ntmps110
 go_upto_region 1 with fail
 refine at_box1 (fun V hbb B0 hVs => ?_);have p0:=B0.c 0 rfl;(go_wp2_with fail);refine (CKK.out _ hbb).mono ?_;rintro e w1 ⟨rfl,hb⟩;clear p0;replace hbb:=keepB hbb hb;replace B0:=B0.keep hb;clear hb hVs CKK
 go_upto_region 5 with fail
 have hg:=hbb.size;have hg1:=B0.lt;refine at_worldQ (fun v => Below w.heap.size w v∧BK v w.heap.size [.slice (some ⟨pb,po,none⟩) n cp]∧Tb v w1.heap.size n (fun _ => .slice none 0 0) (fun _ => [])∧v.heap.size = w1.heap.size + 1) ⟨below_al hbb _,B0.al _,Tb.new w1 n,by simp⟩ (fun V5 hS => ?_);clear hbb B0 hmk;obtain ⟨hbb,B0,TB,hVs⟩:=hS;obtain ⟨g,hgg⟩ : ∃ z,w1.heap.size = z:=⟨_,rfl⟩;rw [hgg] at TB hg hg1 hVs ⊢;clear hgg;rw [← Pf.Cf_zero D ps n] at TB;(go_wp2_with fail)
 go_loopw [25] (fun i v => ∃ (a : Nat) (R : Nat → Value),a ≤ n∧i = .int .i64 (a : Nat)∧Below w.heap.size w v∧BK v w.heap.size [.slice (some ⟨pb,po,none⟩) n cp]∧Tb v g n R (Pf.Cf D ps n a 0)∧(∀ x y,x < a → y < n → (Pf.wv D ps x y).2.2 = 0)) (fun i _ => n - (intOf i).toNat)
 case atStart => exact ⟨0,_,Nat.zero_le _,rfl,hbb,B0,TB,fun x y hx => absurd hx (by omega)⟩
 case round =>
  clear hbb B0 TB hVs;obtain ⟨a,R,han,rfl,hbb,B0,TB,hwz⟩:=hrel;have HWZ:=Lib.hid hwz;clear hwz
  by_cases ha : a < n
  ·have i1 : (a : Int) < (n : Int):=by omega
   have i0a : (0 : Int) ≤ (a : Int):=by omega
   obtain ⟨q0,q1,q2⟩:=HCL.out a ha;have k0:=keepC hbb q0;have k1:=keepC hbb q1;have k2:=keepC hbb q2
   have pwa:=fun b hb => PW.out a b ha hb
   clear q0 q1 q2
   generalize Ak.cat cs a = cc at *
   obtain ⟨cl,cK,ccuts,cck,cZ,cdens,ccz⟩:=cc
   dsimp only at *
   obtain ⟨lk,hlk⟩ : ∃ z,ccuts.length = z:=⟨_,rfl⟩;obtain ⟨lz,hlz⟩ : ∃ z,cdens.length = z:=⟨_,rfl⟩;rw [hlk] at k1;rw [hlz] at k2;rw [hlk,hlz] at pwa;have PWA:=Lib.hid pwa;clear pwa hlk hlz;have hwr:=hbb.size
   go_upto_region 8 with fail
   refine at_worldQ (fun v => Below w.heap.size w v∧BK v w.heap.size [.slice (some ⟨pb,po,none⟩) n cp]∧Tb v g n R (Pf.Cf D ps n a 0)∧BK v wr.heap.size [.int .i64 cl,.slice cK lk cck,.slice cZ lz ccz]∧v.heap.size = wr.heap.size + 1) ⟨below_al hbb _,B0.al _,TB.keep (below_al (Below.refl _ _) _),BK.new _ _ _,by simp⟩ (fun V7 hS => ?_);have hgw:=TB.bk.lt
   have hno : ∀ k,k < n → (R k).ownBlock ≠ some wr.heap.size:=fun k hk e => by
    have:=(World.ownsRow.lt (TB.rw k hk) _ e).2
    omega
   clear hbb B0 TB k0 k1 k2;obtain ⟨hbb,B0,TB,B9,hVs⟩:=hS;obtain ⟨c9,hc9⟩ : ∃ z,wr.heap.size = z:=⟨_,rfl⟩;rw [hc9] at B9 hgw hno hwr hVs ⊢;clear hc9;have p0:=B0.c 0 rfl;(go_wp2_with fail)
   go_loopw [33] (fun i v => ∃ (j : Nat) (R : Nat → Value),j ≤ n∧i = .int .i64 (j : Nat)∧Below w.heap.size w v∧BK v w.heap.size [.slice (some ⟨pb,po,none⟩) n cp]∧Tb v g n R (Pf.Cf D ps n a j)∧BK v c9 [.int .i64 cl,.slice cK lk cck,.slice cZ lz ccz]∧(∀ k,k < n → (R k).ownBlock ≠ some c9)∧c9 < v.heap.size∧(∀ y,y < j → (Pf.wv D ps a y).2.2 = 0)) (fun i _ => n - (intOf i).toNat)
   case atStart => exact ⟨0,R,Nat.zero_le _,rfl,hbb,B0,TB,B9,hno,by omega,fun y hy => absurd hy (by omega)⟩
   case round =>
    clear hbb B0 TB B9 hno p0 hVs R;obtain ⟨j,R,hjn,rfl,hbb,B0,TB,B9,hno,hcs,hwy⟩:=hrel;have HWY:=Lib.hid hwy;clear hwy
    by_cases hj : j < n
    ·have i2 : (j : Int) < (n : Int):=by omega
     have i3 : (0 : Int) ≤ (j : Int):=by omega
     have q0:=keepC hbb (HPC.out j hj);have pwb:=PWA.out j hj;have hwp : Pf.wp D ps a j = ((Pf.wv D ps a j).1,(Pf.wv D ps a j).2.1):=rfl;have hcf:=Pf.Cf_step D ps n a j;rw [hwp] at hcf;obtain ⟨⟨x1,x2,x3⟩,hx⟩ : ∃ z,Pf.wv D ps a j = z:=⟨_,rfl⟩;rw [hx] at pwb hcf;dsimp only at pwb hcf
     generalize Pf.pat ps j = pj at *
     obtain ⟨pA,pc,pL⟩:=pj
     dsimp only at *
     obtain ⟨lp,hlp⟩ : ∃ z,pL.length = z:=⟨_,rfl⟩;rw [hlp] at q0 pwb;have PWB:=Lib.hid pwb;have HX:=Lib.hid hx;have HCF:=Lib.hid hcf;clear pwb hx hcf hlp hwp;have k0:=B9.c 0 rfl;have k1:=B9.c 1 rfl;have k2:=B9.c 2 rfl;(go_wp2_with fail);refine (PWB.out _ hbb).mono ?_;rintro e w6 ⟨rfl,hb⟩;clear q0 k0 k1 k2;have hsz:=hb.size;replace hbb:=keepB hbb hb;replace B0:=B0.keep hb;replace TB:=TB.keep hb;replace B9:=B9.keep hb;clear hb PWB;have hgw6:=TB.bk.lt
     have hno6 : ∀ k,k < n → (R k).ownBlock ≠ some w6.heap.size:=fun k hk e => by
      have:=(World.ownsRow.lt (TB.rw k hk) _ e).2
      omega
     have hc6:=B9.lt
     go_upto_region 12 with fail
     refine at_worldQ (fun v => Below w.heap.size w v∧BK v w.heap.size [.slice (some ⟨pb,po,none⟩) n cp]∧Tb v g n R (Pf.Cf D ps n a j)∧BK v c9 [.int .i64 cl,.slice cK lk cck,.slice cZ lz ccz]∧BK v w6.heap.size [.int .i64 x1,.int .i64 x2]) ⟨below_al hbb _,B0.al _,TB.keep (below_al (Below.refl _ _) _),B9.al _,BK.new _ _ _⟩ (fun V hS => ?_);clear hbb B0 TB B9;obtain ⟨hbb,B0,TB,B9,B12⟩:=hS;obtain ⟨p12,hp12⟩ : ∃ z,w6.heap.size = z:=⟨_,rfl⟩;rw [hp12] at B12 hgw6 hno6 hc6 ⊢;clear hp12
     by_cases hz : x3 = 0
     ·subst hz
      go_upto_region 14 with fail
      obtain ⟨C,hC⟩ : ∃ z,Pf.Cf D ps n a j = z:=⟨_,rfl⟩
      have hlC : (C a).length = j:=by rw [← hC];exact Pf.Cf_len D ps n a j
      rw [hC] at TB HCF;have HCC:=Lib.hid hC;clear hC;have HLC:=Lib.hid hlC;have t0:=B12.c 0 rfl;have t1:=B12.c 1 rfl
      have ht0 : ¬ (p12 = g ∨ (R a).ownBlock = some p12):=fun e => e.elim (fun e => by omega) (hno6 a ha)
      have hj6 : (C a).length ≤ 6:=by omega
      clear hlC;refine wp_region_noPanic ?_;refine wp_region_held_drew (S:=(GB (fun k => k = g ∨ (R a).ownBlock = some k) V)) (by kernel_rfl) ((GB.refl _ _).drew) (fun hHeld => ?_);refine at_anyH (fun u => GB (fun k => k = g ∨ (R a).ownBlock = some k) V u∧Tb u g n R C) ⟨hHeld,TB.keep ((Below.refl _ _).drew)⟩ (fun W0 hNew => ?_);clear hHeld TB;obtain ⟨hHeld,TB⟩:=hNew;refine tkd 0 ?_;refine tkd 1 ?_;refine tkd 2 ?_;refine tkd 3 ?_;refine tkd 4 ?_;(try simp only [PPz]);refine tkm 6 rfl hHeld (fun w hSw => by have kt0:=hSw.cell ht0 t0;have kt1:=hSw.cell ht0 t1;go_simp <;> with_reducible rfl) ?_;(try simp only [PPz]);refine rdy2 5 7 rfl rfl (fun K hK => ?_) (fun K hK => ?_)
      ·
       have n0:=(TB.at_ ha).1;go_simp;clear n0;refine hK.out _ _ hHeld (fun hNew => ?_);replace hHeld:=hNew;clear hNew hK K;(try simp only [PPz]);refine rdy1 7 rfl (fun K hK => ?_);go_simp;refine hK.out _ _ (hHeld.al _) (fun hNew => ?_);replace hHeld:=hNew;clear hNew hK K;(try simp only [PPz]);refine at_anyH (fun u => GB (fun k => k = g ∨ (R a).ownBlock = some k) V u∧Tb u g n R C∧BK u W0.heap.size [.int .i64 x1,.int .i64 x2]) ⟨hHeld,TB.keep (below_al (Below.refl _ _) _),BK.new _ _ _⟩ (fun Wk8 hS => ?_);clear hHeld TB;obtain ⟨hHeld,TB,BX⟩:=hS;obtain ⟨PX,hPX⟩ : ∃ PX,W0.heap.size = PX:=⟨_,rfl⟩;rw [hPX] at BX ⊢;clear hPX;refine rdy1 8 rfl (fun K hK => ?_);have hrow:=TB.rw a ha;have hgb:=TB.bk.lt;refine step_append_lies _ (by rfl) _ _ _ (by rfl) (g + 1) 31 i0 _ 2 16 Tryz.underlying68 HIN.out HIZ.out HS1.out HS2.out rfl (by omega) (R a) (C a).length (Pf.prs (C a)) (by rfl) hrow ⟨PX,0,none⟩ 1 1 [.int .i64 x1,.int .i64 x2] (by rfl) (by rfl) (fun j u hj => by rw [Addr.add_lit,Nat.zero_add];exact BX.c j hj) (by intro u hu;simp at hu;rcases hu with rfl | rfl <;> rfl) (by omega) (by unfold maxLen;omega) (by omega) (by omega) _ rfl ?_;intro gr cap Wk9 hown2 hgrow hat hglt;clear BX hrow;have hlw:=hHeld;refine hK.out _ _ (hHeld.grown hgrow (fun j e => .inl (.inr e))) (fun hNew => ?_);replace hHeld:=hNew;clear hNew hK K;(try simp only [PPz]);refine tkd 9 ?_;(try simp only [PPz]);refine rdy1 10 rfl (fun K hK => ?_);have nf:=TB.at_ ha;have n0:=(TB.bk.grown hgrow (fun e => by have:=World.ownsRow.lt (TB.rw a ha) g e;omega)).c a (x:=R a) (by simp [ha]);have f0:=(TB.bk.grown hgrow (fun e => by have:=World.ownsRow.lt (TB.rw a ha) g e;omega)).f a (x:=R a) (by simp [ha]);have TB2:=Tb.app (r:=(x1,x2)) TB ha hgrow hown2 (hat.imp id fun e => by omega);go_simp;clear n0 f0 nf;refine hK.out _ _ (hHeld.set (.inl (.inl rfl)) _) (fun hNew => ?_);replace hHeld:=hNew;clear hNew hK K;(try simp only [PPz]);clear hown2 hgrow;refine wpAnyH_done (by kernel_rfl) ?_ _;refine NoPanic.normal ?_
       have hat2 : (R a).ownBlock = some gr ∨ V.heap.size ≤ gr:=hat.imp id fun e => by have:=hlw.size;omega
       rw [HCF.out] at TB2
       have hF : ∀ k,k < g → ¬ (k = g ∨ (R a).ownBlock = some k):=fun k hk e => e.elim (fun e => by omega) (fun e => by
        have:=World.ownsRow.lt (TB.rw a ha) _ e
        omega)
       have hcn : ¬ (c9 = g ∨ (R a).ownBlock = some c9):=fun e => e.elim (fun e => by omega) (hno a ha)
       have hbn:=hHeld.toBelow hbb (fun k hk => by
        rcases hk with rfl | e
        ·omega
        ·have:=World.ownsRow.lt (TB.rw a ha) _ e
         omega) (by have:=hbb.size;omega)
       have B0n:=B0.gb hHeld (hF _ (by omega));have B9n:=B9.gb hHeld hcn;have hVn:=hHeld.size;have hVb:=B12.lt;clear TB hbb B0 B9 t0 t1 ht0 B12;(go_wp2_with fail)
       go_roundw
       case rel => exact ⟨j + 1,_,by omega,by go_num,hbn,B0n,TB2,B9n,fun k hk => by
        by_cases e : k = a
        ·rw [if_pos e]
         intro e2
         have e2 : gr = c9:=by simpa [Value.ownBlock] using e2
         subst e2
         rcases hat2 with h1 | h1
         ·exact hno a ha h1
         ·omega
        ·rw [if_neg e]
         exact hno k hk,by omega,fun y hy => by
        by_cases e : y = j
        ·rw [e,HX.out]
        ·exact HWY.out y (by omega)⟩
       case measure => (simp [intOf] <;> omega)

      ·
       go_simp;refine hK.out _ _ (hHeld.al _) (fun hNew => ?_);replace hHeld:=hNew;clear hNew hK K;(try simp only [PPz]);refine at_anyH (fun u => GB (fun k => k = g ∨ (R a).ownBlock = some k) V u∧Tb u g n R C∧BK u W0.heap.size [.int .i64 x1,.int .i64 x2]) ⟨hHeld,TB.keep (below_al (Below.refl _ _) _),BK.new _ _ _⟩ (fun Wk12 hS => ?_);clear hHeld TB;obtain ⟨hHeld,TB,BX⟩:=hS;obtain ⟨PX,hPX⟩ : ∃ PX,W0.heap.size = PX:=⟨_,rfl⟩;rw [hPX] at BX ⊢;clear hPX;refine rdy1 5 rfl (fun K hK => ?_);have n0:=(TB.at_ ha).1;go_simp;clear n0;refine hK.out _ _ hHeld (fun hNew => ?_);replace hHeld:=hNew;clear hNew hK K;(try simp only [PPz]);refine rdy1 8 rfl (fun K hK => ?_);have hrow:=TB.rw a ha;have hgb:=TB.bk.lt;refine step_append_lies _ (by rfl) _ _ _ (by rfl) (g + 1) 31 i0 _ 2 16 Tryz.underlying68 HIN.out HIZ.out HS1.out HS2.out rfl (by omega) (R a) (C a).length (Pf.prs (C a)) (by rfl) hrow ⟨PX,0,none⟩ 1 1 [.int .i64 x1,.int .i64 x2] (by rfl) (by rfl) (fun j u hj => by rw [Addr.add_lit,Nat.zero_add];exact BX.c j hj) (by intro u hu;simp at hu;rcases hu with rfl | rfl <;> rfl) (by omega) (by unfold maxLen;omega) (by omega) (by omega) _ rfl ?_;intro gr cap Wk14 hown2 hgrow hat hglt;clear BX hrow;have hlw:=hHeld;refine hK.out _ _ (hHeld.grown hgrow (fun j e => .inl (.inr e))) (fun hNew => ?_);replace hHeld:=hNew;clear hNew hK K;(try simp only [PPz]);refine tkd 9 ?_;(try simp only [PPz]);refine rdy1 10 rfl (fun K hK => ?_);have nf:=TB.at_ ha;have n0:=(TB.bk.grown hgrow (fun e => by have:=World.ownsRow.lt (TB.rw a ha) g e;omega)).c a (x:=R a) (by simp [ha]);have f0:=(TB.bk.grown hgrow (fun e => by have:=World.ownsRow.lt (TB.rw a ha) g e;omega)).f a (x:=R a) (by simp [ha]);have TB2:=Tb.app (r:=(x1,x2)) TB ha hgrow hown2 (hat.imp id fun e => by omega);go_simp;clear n0 f0 nf;refine hK.out _ _ (hHeld.set (.inl (.inl rfl)) _) (fun hNew => ?_);replace hHeld:=hNew;clear hNew hK K;(try simp only [PPz]);clear hown2 hgrow;refine wpAnyH_done (by kernel_rfl) ?_ _;refine NoPanic.normal ?_
       have hat2 : (R a).ownBlock = some gr ∨ V.heap.size ≤ gr:=hat.imp id fun e => by have:=hlw.size;omega
       rw [HCF.out] at TB2
       have hF : ∀ k,k < g → ¬ (k = g ∨ (R a).ownBlock = some k):=fun k hk e => e.elim (fun e => by omega) (fun e => by
        have:=World.ownsRow.lt (TB.rw a ha) _ e
        omega)
       have hcn : ¬ (c9 = g ∨ (R a).ownBlock = some c9):=fun e => e.elim (fun e => by omega) (hno a ha)
       have hbn:=hHeld.toBelow hbb (fun k hk => by
        rcases hk with rfl | e
        ·omega
        ·have:=World.ownsRow.lt (TB.rw a ha) _ e
         omega) (by have:=hbb.size;omega)
       have B0n:=B0.gb hHeld (hF _ (by omega));have B9n:=B9.gb hHeld hcn;have hVn:=hHeld.size;have hVb:=B12.lt;clear TB hbb B0 B9 t0 t1 ht0 B12;(go_wp2_with fail)
       go_roundw
       case rel => exact ⟨j + 1,_,by omega,by go_num,hbn,B0n,TB2,B9n,fun k hk => by
        by_cases e : k = a
        ·rw [if_pos e]
         intro e2
         have e2 : gr = c9:=by simpa [Value.ownBlock] using e2
         subst e2
         rcases hat2 with h1 | h1
         ·exact hno a ha h1
         ·omega
        ·rw [if_neg e]
         exact hno k hk,by omega,fun y hy => by
        by_cases e : y = j
        ·rw [e,HX.out]
        ·exact HWY.out y (by omega)⟩
       case measure => (simp [intOf] <;> omega)

     ·have x31 : (x3 == 0) = false:=by simp [hz]
      have x32 : (x3 != 0) = true:=by simp [hz]
      go_wp2_with fail
      go_ret2
      exact ⟨hbb,.inl ⟨a,j,ha,hj,by rw [HX.out];exact hz,by rw [HX.out];rfl⟩⟩
    ·obtain rfl : j = n:=by omega
     have i2 : ¬ (j : Int) < (j : Int):=by omega
     rw [Pf.Cf_next] at TB;clear B9;(go_wp2_with fail)
     go_roundw
     case rel => exact ⟨a + 1,R,by omega,by go_num,hbb,B0,TB,fun x y hx hy => by
      by_cases e : x = a
      ·rw [e];exact HWY.out y hy
      ·exact HWZ.out x y (by omega) hy⟩
     case measure => (simp [intOf] <;> omega)
  ·obtain rfl : a = n:=by omega
   have i1 : ¬ (a : Int) < (a : Int):=by omega
   have hws:=TB.wsB.mono (show w.heap.size ≤ g from hg) (Nat.le_refl _)
   have hrw : ∀ k,k < a → (Pf.rat ((List.range a).map fun k => Pf.rwOf (R k) (Pf.Cf D ps a a 0 k)) k).l = (List.range a).map (Pf.wp D ps k):=fun k hk => by
    obtain ⟨Ax,cx,hv,-⟩:=row_cap (TB.rw k hk)
    unfold Pf.rat
    simp only [List.getD_eq_getElem?_getD,List.getElem?_map,List.getElem?_range hk,Option.map_some,Option.getD_some]
    rw [hv]
    show Pf.Cf D ps a a 0 k = _
    unfold Pf.Cf
    rw [if_pos hk]
   have HWS:=Lib.hid hws;have HRW:=Lib.hid hrw;clear hws hrw TB B0;(go_wp2_with fail)
   go_ret2
   exact ⟨hbb,.inr ⟨fun x y hx hy => HWZ.out x y hx hy,g,rfl,_,HWS.out,by simp,HRW.out⟩⟩
end Go.Proofs.YtogmfebphiglaaaGreat


