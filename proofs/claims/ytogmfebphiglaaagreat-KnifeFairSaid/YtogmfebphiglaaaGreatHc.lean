/- Package proof: the counterexample to a claim. Package proof: holding. Package proof: counterexample of a survey. -/
import Derived.Test.YtogmfebphiglaaaGreatPfc
set_option linter.unusedSimpArgs false
set_option maxHeartbeats 8000000
set_option maxRecDepth 100000
namespace Go.Proofs.YtogmfebphiglaaaGreat
open Go.RowKit
namespace Pf
/-- The first pair that is a counterexample, or what stands for none. -/
def CeR (n : Nat) (f : Nat → Nat → Bool) (LV : Bool → Prop) (x y : Int) (z : Bool) : Prop :=
 (∃ a b : Nat,a < n∧b < n∧f a b = true∧x = (a : Nat)∧y = (b : Nat)∧z = true) ∨
  ((∀ a b,a < n → b < n → f a b = false)∧((LV true∧x = -1∧y = -1∧z = true) ∨ (LV false∧x = 0∧y = 0∧z = false)))
/-- Whether there is one. -/
def ceB (n : Nat) (f : Nat → Nat → Bool) (lv : Bool) : Bool:=(List.range n).any (fun a => (List.range n).any fun b => f a b) || lv
theorem CeR.eq {n : Nat} {f : Nat → Nat → Bool} {LV : Bool → Prop} {lv : Bool} {x y : Int} {z : Bool} (h : CeR n f LV x y z) (hl : ∀ b,LV b → (∀ a b,a < n → b < n → f a b = false) → b = lv) : z = ceB n f lv:=by
 unfold ceB
 rcases h with ⟨a,b,ha,hb,hf,-,-,rfl⟩ | ⟨h,h2⟩
 ·symm
  rw [Bool.or_eq_true,List.any_eq_true];exact .inl ⟨a,List.mem_range.2 ha,by rw [List.any_eq_true];exact ⟨b,List.mem_range.2 hb,hf⟩⟩
 ·have e : ((List.range n).any (fun a => (List.range n).any fun b => f a b)) = false:=by
   rw [List.any_eq_false];intro a ha;rw [Bool.not_eq_true,List.any_eq_false];intro b hb;rw [h a b (List.mem_range.1 ha) (List.mem_range.1 hb)]
   simp
  rw [e,Bool.false_or]
  rcases h2 with ⟨h2,-,-,rfl⟩ | ⟨h2,-,-,rfl⟩ <;> exact hl _ h2 h
end Pf
theorem pfce_any (A Pp Ww Rr : Option Addr) (n ca nP cp nW cw nR cr : Nat) (c : Int) (g : FuncId) (f : Nat → Nat → Bool) (LV : Bool → Prop) (w : World) (hn : n ≤ 6)
 (hA : ∀ v,Calls Tryz.prog 150 #[.agg #[.slice A n ca,.slice Pp nP cp,.slice Ww nW cw,.slice Rr nR cr],.int .u8 c] v (AgQ g [.slice A n ca,.slice Pp nP cp,.slice Ww nW cw,.slice Rr nR cr] v))
 (hC : ∀ a b p v,a < n → b < n → Below w.heap.size w v → BK v p [.slice A n ca,.slice Pp nP cp,.slice Ww nW cw,.slice Rr nR cr] → Calls Tryz.prog g #[.int .i64 (a : Nat),.int .i64 (b : Nat),.pointer (some ⟨p,0,none⟩)] v fun e w' => e = .returned (.bool (f a b))∧Below v.heap.size v w')
 (hE : ∀ (x y z : Value) (v : World),Sem.run Tryz.prog (callFunc g #[x,y,z]) v = .ok (.enter g #[x,y,z]) v)
 (hc : c = 1 ∨ (c ≠ 1∧LV false)) (hL : c = 1 → (∀ a b,a < n → b < n → f a b = false) → ∀ v,Below w.heap.size w v → Calls Tryz.prog 151 #[.agg #[.slice A n ca,.slice Pp nP cp,.slice Ww nW cw,.slice Rr nR cr]] v fun e w' => ∃ lv,e = .returned (.bool lv)∧Below v.heap.size v w'∧LV lv) :
 Calls Tryz.prog 111 #[.agg #[.slice A n ca,.slice Pp nP cp,.slice Ww nW cw,.slice Rr nR cr],.int .u8 c] w fun e w' => ∃ (x y : Int) (z : Bool),e = .returned (.tuple #[.int .i64 x,.int .i64 y,.bool z])∧Below w.heap.size w w'∧Pf.CeR n f LV x y z:=by
 have HA:=Lib.hid hA;have HC:=Lib.hid hC;have HL:=Lib.hid hL;clear hA hC hL
 go_enter Tryz.func111,Tryz.ntmps111
 go_upto_region 1 with fail
 refine at_box1 (fun V hbb B0 hVs => ?_);have p0:=B0.c 0 rfl;have p1:=B0.c 1 rfl;have p2:=B0.c 2 rfl;have p3:=B0.c 3 rfl;(go_wp2_with fail)
 unfold AgQ at HA
 refine (HA.out _).mono ?_;rintro e w1 ⟨p,rfl,hb,BP⟩;clear p0 p1 p2 p3;replace hbb:=keepB hbb hb;replace B0:=B0.keep hb;clear hb hVs HA;have p0:=B0.c 0 rfl;(go_wp2_with fail)
 go_loopw [16] (fun i v => ∃ a : Nat,a ≤ n∧i = .int .i64 (a : Nat)∧Below w.heap.size w v∧BK v w.heap.size [.slice A n ca,.slice Pp nP cp,.slice Ww nW cw,.slice Rr nR cr]∧BK v p [.slice A n ca,.slice Pp nP cp,.slice Ww nW cw,.slice Rr nR cr]∧(∀ a' b',a' < a → b' < n → f a' b' = false)) (fun i _ => n - (intOf i).toNat)
 case atStart => exact ⟨0,Nat.zero_le _,rfl,hbb,B0,BP,fun a' b' h => absurd h (by omega)⟩
 case round =>
  clear hbb B0 BP p0;obtain ⟨a,ha,rfl,hbb,B0,BP,hfa⟩:=hrel;have HFA:=Lib.hid hfa;clear hfa;have p0:=B0.c 0 rfl
  by_cases hlt : a < n
  ·have i1 : (a : Int) < (n : Int):=by omega
   go_wp2_with fail
   go_loopw [22] (fun i v => ∃ b : Nat,b ≤ n∧i = .int .i64 (b : Nat)∧Below w.heap.size w v∧BK v w.heap.size [.slice A n ca,.slice Pp nP cp,.slice Ww nW cw,.slice Rr nR cr]∧BK v p [.slice A n ca,.slice Pp nP cp,.slice Ww nW cw,.slice Rr nR cr]∧(∀ b',b' < b → f a b' = false)) (fun i _ => n - (intOf i).toNat)
   case atStart => exact ⟨0,Nat.zero_le _,rfl,hbb,B0,BP,fun b' h => absurd h (by omega)⟩
   case round =>
    clear hbb B0 BP p0;obtain ⟨b,hb,rfl,hbb,B0,BP,hfb⟩:=hrel;have HFB:=Lib.hid hfb;clear hfb
    by_cases hlb : b < n
    ·have i2 : (b : Int) < (n : Int):=by omega
     have cl:=HC.out a b p;have he:=hE (.int .i64 (a : Nat)) (.int .i64 (b : Nat)) (.pointer (some ⟨p,0,none⟩));obtain ⟨R,hR⟩ : ∃ z,f a b = z:=⟨_,rfl⟩;rw [hR] at cl;have CL:=Lib.hid (fun v h1 h2 => cl v hlt hlb h1 h2);have HR:=Lib.hid hR;clear cl hR;(go_wp2_with fail);refine (CL.out _ hbb BP).mono ?_;rintro e w5 ⟨rfl,hb5⟩;replace hbb:=keepB hbb hb5;replace B0:=B0.keep hb5;replace BP:=BP.keep hb5;clear hb5 CL he
     cases R with
     | true =>
      go_wp2_with fail
      go_ret3
      exact ⟨_,_,_,rfl,hbb,.inl ⟨a,b,hlt,hlb,HR.out,rfl,rfl,rfl⟩⟩
     | false =>
      go_wp2_with fail
      go_roundw
      case rel => exact ⟨b + 1,by omega,by go_num,hbb,B0,BP,fun b' h => by
       by_cases e : b' = b
       ·rw [e];exact HR.out
       ·exact HFB.out b' (by omega)⟩
      case measure => (simp [intOf] <;> omega)
    ·obtain rfl : b = n:=by omega
     have i2 : ¬ (b : Int) < (b : Int):=by omega
     go_wp2_with fail
     go_roundw
     case rel => exact ⟨a + 1,by omega,by go_num,hbb,B0,BP,fun a' b' h h2 => by
      by_cases e : a' = a
      ·rw [e];exact HFB.out b' h2
      ·exact HFA.out a' b' (by omega) h2⟩
     case measure => (simp [intOf] <;> omega)
  ·obtain rfl : a = n:=by omega
   have i1 : ¬ (a : Int) < (a : Int):=by omega
   rcases hc with rfl | ⟨hc1,hlv⟩
   ·have p1:=B0.c 1 rfl
    have p2:=B0.c 2 rfl;have p3:=B0.c 3 rfl;(go_wp2_with fail);refine (HL.out (by first | rfl | trivial) (fun a' b' h1 h2 => HFA.out a' b' h1 h2) _ hbb).mono ?_;rintro e w5 ⟨lv,rfl,hb5,hlv⟩;have HLV:=Lib.hid hlv;clear hlv;replace hbb:=keepB hbb hb5;clear hb5 p0 p1 p2 p3 B0 BP
    cases lv with
    | true =>
     go_wp2_with fail
     go_ret3
     exact ⟨_,_,_,rfl,hbb,.inr ⟨fun a' b' h1 h2 => HFA.out a' b' h1 h2,.inl ⟨HLV.out,rfl,rfl,rfl⟩⟩⟩
    | false =>
     go_wp2_with fail
     go_ret3
     exact ⟨_,_,_,rfl,hbb,.inr ⟨fun a' b' h1 h2 => HFA.out a' b' h1 h2,.inr ⟨HLV.out,rfl,rfl,rfl⟩⟩⟩
   ·have HLV:=Lib.hid hlv
    clear hlv
    have j1 : (c == 1) = false:=by simp [hc1]
    go_wp2_with fail
    go_ret3
    first
     | exact ⟨_,_,_,rfl,hbb,.inr ⟨fun a' b' h1 h2 => HFA.out a' b' h1 h2,.inr ⟨HLV.out,rfl,rfl,rfl⟩⟩⟩
     | exact ⟨_,_,.inl ⟨rfl,hbb,.inr ⟨fun a' b' h1 h2 => HFA.out a' b' h1 h2,.inr ⟨HLV.out,rfl,rfl,rfl⟩⟩⟩⟩
     | exact ⟨_,_,.inr ⟨rfl,hbb,.inr ⟨fun a' b' h1 h2 => HFA.out a' b' h1 h2,.inr ⟨HLV.out,rfl,rfl,rfl⟩⟩⟩⟩
     | exact .inl ⟨_,_,rfl,hbb,.inr ⟨fun a' b' h1 h2 => HFA.out a' b' h1 h2,.inr ⟨HLV.out,rfl,rfl,rfl⟩⟩⟩
     | exact .inr ⟨_,_,rfl,hbb,.inr ⟨fun a' b' h1 h2 => HFA.out a' b' h1 h2,.inr ⟨HLV.out,rfl,rfl,rfl⟩⟩⟩
     | exact ⟨_,rfl,hbb,.inr ⟨fun a' b' h1 h2 => HFA.out a' b' h1 h2,.inr ⟨HLV.out,rfl,rfl,rfl⟩⟩⟩
     | exact ⟨_,_,rfl,hbb,.inr ⟨fun a' b' h1 h2 => HFA.out a' b' h1 h2,.inr ⟨HLV.out,rfl,rfl,rfl⟩⟩⟩
     | exact ⟨_,.inl ⟨_,rfl,hbb,.inr ⟨fun a' b' h1 h2 => HFA.out a' b' h1 h2,.inr ⟨HLV.out,rfl,rfl,rfl⟩⟩⟩⟩
     | (trace_state;fail)
end Go.Proofs.YtogmfebphiglaaaGreat
namespace Go.Proofs.YtogmfebphiglaaaGreat
open Go.RowKit
namespace Pf
def pw (k : Nat) : Int:=[1,2,4,8,16,32].getD k 0
/-- The sum of those of some claims against which nothing was found. -/
def hs (bt F : Nat → Bool) : Nat → Int
 | 0 => 0
 | k + 1 => hs bt F k + (if (bt k && !F k) = true then pw k else 0)
theorem hs_no (bt F : Nat → Bool) (k : Nat) (h : (bt k && !F k) = false) : hs bt F (k + 1) = hs bt F k:=by
 show hs bt F k + (if (bt k && !F k) = true then pw k else 0) = _
 rw [h]
 simp
theorem hs_yes (bt F : Nat → Bool) (k : Nat) (h : (bt k && !F k) = true) : hs bt F (k + 1) = hs bt F k + pw k:=by
 show hs bt F k + (if (bt k && !F k) = true then pw k else 0) = _
 rw [if_pos h]
theorem hs_same (bt F G : Nat → Bool) : ∀ k,(∀ j,j < k → G j = F j) → hs bt G k = hs bt F k
 | 0,_ => rfl
 | k + 1,h => by
  show hs bt G k + (if (bt k && !G k) = true then pw k else 0) = hs bt F k + (if (bt k && !F k) = true then pw k else 0)
  rw [hs_same bt F G k (fun j hj => h j (by omega)),h k (by omega)]
theorem hs_bd (bt F : Nat → Bool) : ∀ k,k ≤ 5 → 0 ≤ hs bt F k∧hs bt F k < pw k
 | 0,_ => ⟨Int.le_refl 0,show (0 : Int) < 1 by decide⟩
 | k + 1,h => by
  have ih:=hs_bd bt F k (by omega)
  have e : pw (k + 1) = 2 * pw k∧0 < pw k:=by
   have : k = 0 ∨ k = 1 ∨ k = 2 ∨ k = 3 ∨ k = 4:=by omega
   rcases this with rfl | rfl | rfl | rfl | rfl <;> decide
  show 0 ≤ hs bt F k + (if (bt k && !F k) = true then pw k else 0)∧hs bt F k + (if (bt k && !F k) = true then pw k else 0) < pw (k + 1)
  split <;> omega
theorem u8or_1 (r : Int) (h0 : 0 ≤ r) (h1 : r < 1) : bits BinOp.or IntKind.u8 r 1 = r + 1:=by
 have h : ∀ n : Fin 1,bits BinOp.or IntKind.u8 ((n.val : Nat) : Int) 1 = ((n.val : Nat) : Int) + 1:=by decide
 obtain ⟨n,rfl⟩:=Int.eq_ofNat_of_zero_le h0;exact h ⟨n,by omega⟩
theorem u8or_2 (r : Int) (h0 : 0 ≤ r) (h1 : r < 2) : bits BinOp.or IntKind.u8 r 2 = r + 2:=by
 have h : ∀ n : Fin 2,bits BinOp.or IntKind.u8 ((n.val : Nat) : Int) 2 = ((n.val : Nat) : Int) + 2:=by decide
 obtain ⟨n,rfl⟩:=Int.eq_ofNat_of_zero_le h0;exact h ⟨n,by omega⟩
theorem u8or_4 (r : Int) (h0 : 0 ≤ r) (h1 : r < 4) : bits BinOp.or IntKind.u8 r 4 = r + 4:=by
 have h : ∀ n : Fin 4,bits BinOp.or IntKind.u8 ((n.val : Nat) : Int) 4 = ((n.val : Nat) : Int) + 4:=by decide
 obtain ⟨n,rfl⟩:=Int.eq_ofNat_of_zero_le h0;exact h ⟨n,by omega⟩
theorem u8or_8 (r : Int) (h0 : 0 ≤ r) (h1 : r < 8) : bits BinOp.or IntKind.u8 r 8 = r + 8:=by
 have h : ∀ n : Fin 8,bits BinOp.or IntKind.u8 ((n.val : Nat) : Int) 8 = ((n.val : Nat) : Int) + 8:=by decide
 obtain ⟨n,rfl⟩:=Int.eq_ofNat_of_zero_le h0;exact h ⟨n,by omega⟩
theorem u8or_16 (r : Int) (h0 : 0 ≤ r) (h1 : r < 16) : bits BinOp.or IntKind.u8 r 16 = r + 16:=by
 have h : ∀ n : Fin 16,bits BinOp.or IntKind.u8 ((n.val : Nat) : Int) 16 = ((n.val : Nat) : Int) + 16:=by decide
 obtain ⟨n,rfl⟩:=Int.eq_ofNat_of_zero_le h0;exact h ⟨n,by omega⟩
end Pf
theorem pfholding_any (A Pp Ww Rr : Option Addr) (n ca nP cp nW cw nR cr : Nat) (z : Int) (bt : Nat → Bool) (PP : Nat → Bool → Prop) (w : World)
 (hz : ∀ k,k < 5 → (bits BinOp.and IntKind.u8 z (Pf.pw k) == 0) = !bt k)
 (hC : ∀ k,k < 5 → bt k = true → ∀ v,Below w.heap.size w v → Calls Tryz.prog 111 #[.agg #[.slice A n ca,.slice Pp nP cp,.slice Ww nW cw,.slice Rr nR cr],.int .u8 (Pf.pw k)] v fun e w' => ∃ (x y : Int) (f : Bool),e = .returned (.tuple #[.int .i64 x,.int .i64 y,.bool f])∧Below v.heap.size v w'∧PP k f) :
 Calls Tryz.prog 70 #[.agg #[.slice A n ca,.slice Pp nP cp,.slice Ww nW cw,.slice Rr nR cr],.int .u8 z] w fun e w' => ∃ F : Nat → Bool,e = .returned (.int .u8 (Pf.hs bt F 5))∧Below w.heap.size w w'∧∀ j,j < 5 → bt j = true → PP j (F j):=by
 have HC:=Lib.hid hC;clear hC
 go_enter Tryz.func70,Tryz.ntmps70
 go_upto_region 2 with fail
 refine at_box1 (fun V hbb B0 hVs => ?_);(go_wp2_with fail)
 go_loopw [5,6] (fun s c v => ∃ (k : Nat) (F : Nat → Bool),k ≤ 5∧c = .int .u8 (Pf.pw k)∧s = .int .u8 (Pf.hs bt F k)∧(∀ j,j < k → bt j = true → PP j (F j))∧Below w.heap.size w v∧BK v w.heap.size [.slice A n ca,.slice Pp nP cp,.slice Ww nW cw,.slice Rr nR cr]) (fun _ c _ => 32 - (intOf c).toNat)
 case atStart => exact ⟨0,fun _ => false,by omega,rfl,rfl,fun j hj => absurd hj (by omega),hbb,B0⟩
 case round =>
  clear hbb B0 hVs;obtain ⟨k,F,hk,rfl,rfl,hF,hbb,B0⟩:=hrel;have p0:=B0.c 0 rfl;have p1:=B0.c 1 rfl;have p2:=B0.c 2 rfl;have p3:=B0.c 3 rfl
  have hk' : k = 0 ∨ k = 1 ∨ k = 2 ∨ k = 3 ∨ k = 4 ∨ k = 5:=by omega
  rcases hk' with rfl | rfl | rfl | rfl | rfl | rfl
  ·have hc:=HC.out 0 (by decide)
   have hz0:=hz 0 (by decide);have hcl : Pf.pw 0 = 1:=rfl;rw [hcl] at hc hz0 ⊢;obtain ⟨r,hr⟩ : ∃ z,Pf.hs bt F 0 = z:=⟨_,rfl⟩;have hb:=Pf.hs_bd bt F 0 (by decide);rw [hr,hcl] at hb;rw [hr];have hor:=Pf.u8or_1 r hb.1 hb.2;have HR:=Lib.hid hr;have HF:=Lib.hid hF;clear hr hF hcl
   cases hbt : bt 0 with
   | false =>
    rw [hbt] at hz0;have HB:=Lib.hid hbt;clear hbt hc;(go_wp2_with fail)
    go_roundw
    case rel => exact ⟨1,F,by decide,rfl,by rw [Pf.hs_no bt F 0 (by rw [HB.out];rfl),HR.out],fun j hj hb => by
     by_cases e : j = 0
     ·rw [e,HB.out] at hb;cases hb
     ·exact HF.out j (by omega) hb,hbb,B0⟩
    case measure => (simp [intOf] <;> decide)
   | true =>
    rw [hbt] at hz0;have HB:=Lib.hid hbt;have hc2:=hc hbt;have HC2:=Lib.hid hc2;clear hbt hc hc2;(go_wp2_with fail);refine (HC2.out _ hbb).mono ?_;rintro e w3 ⟨x,y,f,rfl,hb3,hp⟩;replace hbb:=keepB hbb hb3;replace B0:=B0.keep hb3;have HP:=Lib.hid hp;clear hb3 hp HC2 p0 p1 p2 p3
    cases f with
    | false =>
     go_wp2_with fail
     go_roundw
     case rel => exact ⟨1,fun j => if j = 0 then false else F j,by decide,rfl,by rw [Pf.hs_yes bt _ 0 (by rw [HB.out];simp),Pf.hs_same bt F _ 0 (fun j hj => by rw [if_neg (by omega)]),HR.out];first | rfl | (rw [hor];rfl),fun j hj hb => by
      by_cases e : j = 0
      ·show PP j (if j = 0 then false else F j)
       rw [if_pos e,e];exact HP.out
      ·show PP j (if j = 0 then false else F j)
       rw [if_neg e];exact HF.out j (by omega) hb,hbb,B0⟩
     case measure => (simp [intOf] <;> decide)
    | true =>
     go_wp2_with fail
     go_roundw
     case rel => exact ⟨1,fun j => if j = 0 then true else F j,by decide,rfl,by rw [Pf.hs_no bt _ 0 (by simp),Pf.hs_same bt F _ 0 (fun j hj => by rw [if_neg (by omega)]),HR.out],fun j hj hb => by
      by_cases e : j = 0
      ·show PP j (if j = 0 then true else F j)
       rw [if_pos e,e];exact HP.out
      ·show PP j (if j = 0 then true else F j)
       rw [if_neg e];exact HF.out j (by omega) hb,hbb,B0⟩
     case measure => (simp [intOf] <;> decide)
  ·have hc:=HC.out 1 (by decide)
   have hz0:=hz 1 (by decide);have hcl : Pf.pw 1 = 2:=rfl;rw [hcl] at hc hz0 ⊢;obtain ⟨r,hr⟩ : ∃ z,Pf.hs bt F 1 = z:=⟨_,rfl⟩;have hb:=Pf.hs_bd bt F 1 (by decide);rw [hr,hcl] at hb;rw [hr];have hor:=Pf.u8or_2 r hb.1 hb.2;have HR:=Lib.hid hr;have HF:=Lib.hid hF;clear hr hF hcl
   cases hbt : bt 1 with
   | false =>
    rw [hbt] at hz0;have HB:=Lib.hid hbt;clear hbt hc;(go_wp2_with fail)
    go_roundw
    case rel => exact ⟨2,F,by decide,rfl,by rw [Pf.hs_no bt F 1 (by rw [HB.out];rfl),HR.out],fun j hj hb => by
     by_cases e : j = 1
     ·rw [e,HB.out] at hb;cases hb
     ·exact HF.out j (by omega) hb,hbb,B0⟩
    case measure => (simp [intOf] <;> decide)
   | true =>
    rw [hbt] at hz0;have HB:=Lib.hid hbt;have hc2:=hc hbt;have HC2:=Lib.hid hc2;clear hbt hc hc2;(go_wp2_with fail);refine (HC2.out _ hbb).mono ?_;rintro e w3 ⟨x,y,f,rfl,hb3,hp⟩;replace hbb:=keepB hbb hb3;replace B0:=B0.keep hb3;have HP:=Lib.hid hp;clear hb3 hp HC2 p0 p1 p2 p3
    cases f with
    | false =>
     go_wp2_with fail
     go_roundw
     case rel => exact ⟨2,fun j => if j = 1 then false else F j,by decide,rfl,by rw [Pf.hs_yes bt _ 1 (by rw [HB.out];simp),Pf.hs_same bt F _ 1 (fun j hj => by rw [if_neg (by omega)]),HR.out];first | rfl | (rw [hor];rfl),fun j hj hb => by
      by_cases e : j = 1
      ·show PP j (if j = 1 then false else F j)
       rw [if_pos e,e];exact HP.out
      ·show PP j (if j = 1 then false else F j)
       rw [if_neg e];exact HF.out j (by omega) hb,hbb,B0⟩
     case measure => (simp [intOf] <;> decide)
    | true =>
     go_wp2_with fail
     go_roundw
     case rel => exact ⟨2,fun j => if j = 1 then true else F j,by decide,rfl,by rw [Pf.hs_no bt _ 1 (by simp),Pf.hs_same bt F _ 1 (fun j hj => by rw [if_neg (by omega)]),HR.out],fun j hj hb => by
      by_cases e : j = 1
      ·show PP j (if j = 1 then true else F j)
       rw [if_pos e,e];exact HP.out
      ·show PP j (if j = 1 then true else F j)
       rw [if_neg e];exact HF.out j (by omega) hb,hbb,B0⟩
     case measure => (simp [intOf] <;> decide)
  ·have hc:=HC.out 2 (by decide)
   have hz0:=hz 2 (by decide);have hcl : Pf.pw 2 = 4:=rfl;rw [hcl] at hc hz0 ⊢;obtain ⟨r,hr⟩ : ∃ z,Pf.hs bt F 2 = z:=⟨_,rfl⟩;have hb:=Pf.hs_bd bt F 2 (by decide);rw [hr,hcl] at hb;rw [hr];have hor:=Pf.u8or_4 r hb.1 hb.2;have HR:=Lib.hid hr;have HF:=Lib.hid hF;clear hr hF hcl
   cases hbt : bt 2 with
   | false =>
    rw [hbt] at hz0;have HB:=Lib.hid hbt;clear hbt hc;(go_wp2_with fail)
    go_roundw
    case rel => exact ⟨3,F,by decide,rfl,by rw [Pf.hs_no bt F 2 (by rw [HB.out];rfl),HR.out],fun j hj hb => by
     by_cases e : j = 2
     ·rw [e,HB.out] at hb;cases hb
     ·exact HF.out j (by omega) hb,hbb,B0⟩
    case measure => (simp [intOf] <;> decide)
   | true =>
    rw [hbt] at hz0;have HB:=Lib.hid hbt;have hc2:=hc hbt;have HC2:=Lib.hid hc2;clear hbt hc hc2;(go_wp2_with fail);refine (HC2.out _ hbb).mono ?_;rintro e w3 ⟨x,y,f,rfl,hb3,hp⟩;replace hbb:=keepB hbb hb3;replace B0:=B0.keep hb3;have HP:=Lib.hid hp;clear hb3 hp HC2 p0 p1 p2 p3
    cases f with
    | false =>
     go_wp2_with fail
     go_roundw
     case rel => exact ⟨3,fun j => if j = 2 then false else F j,by decide,rfl,by rw [Pf.hs_yes bt _ 2 (by rw [HB.out];simp),Pf.hs_same bt F _ 2 (fun j hj => by rw [if_neg (by omega)]),HR.out];first | rfl | (rw [hor];rfl),fun j hj hb => by
      by_cases e : j = 2
      ·show PP j (if j = 2 then false else F j)
       rw [if_pos e,e];exact HP.out
      ·show PP j (if j = 2 then false else F j)
       rw [if_neg e];exact HF.out j (by omega) hb,hbb,B0⟩
     case measure => (simp [intOf] <;> decide)
    | true =>
     go_wp2_with fail
     go_roundw
     case rel => exact ⟨3,fun j => if j = 2 then true else F j,by decide,rfl,by rw [Pf.hs_no bt _ 2 (by simp),Pf.hs_same bt F _ 2 (fun j hj => by rw [if_neg (by omega)]),HR.out],fun j hj hb => by
      by_cases e : j = 2
      ·show PP j (if j = 2 then true else F j)
       rw [if_pos e,e];exact HP.out
      ·show PP j (if j = 2 then true else F j)
       rw [if_neg e];exact HF.out j (by omega) hb,hbb,B0⟩
     case measure => (simp [intOf] <;> decide)
  ·have hc:=HC.out 3 (by decide)
   have hz0:=hz 3 (by decide);have hcl : Pf.pw 3 = 8:=rfl;rw [hcl] at hc hz0 ⊢;obtain ⟨r,hr⟩ : ∃ z,Pf.hs bt F 3 = z:=⟨_,rfl⟩;have hb:=Pf.hs_bd bt F 3 (by decide);rw [hr,hcl] at hb;rw [hr];have hor:=Pf.u8or_8 r hb.1 hb.2;have HR:=Lib.hid hr;have HF:=Lib.hid hF;clear hr hF hcl
   cases hbt : bt 3 with
   | false =>
    rw [hbt] at hz0;have HB:=Lib.hid hbt;clear hbt hc;(go_wp2_with fail)
    go_roundw
    case rel => exact ⟨4,F,by decide,rfl,by rw [Pf.hs_no bt F 3 (by rw [HB.out];rfl),HR.out],fun j hj hb => by
     by_cases e : j = 3
     ·rw [e,HB.out] at hb;cases hb
     ·exact HF.out j (by omega) hb,hbb,B0⟩
    case measure => (simp [intOf] <;> decide)
   | true =>
    rw [hbt] at hz0;have HB:=Lib.hid hbt;have hc2:=hc hbt;have HC2:=Lib.hid hc2;clear hbt hc hc2;(go_wp2_with fail);refine (HC2.out _ hbb).mono ?_;rintro e w3 ⟨x,y,f,rfl,hb3,hp⟩;replace hbb:=keepB hbb hb3;replace B0:=B0.keep hb3;have HP:=Lib.hid hp;clear hb3 hp HC2 p0 p1 p2 p3
    cases f with
    | false =>
     go_wp2_with fail
     go_roundw
     case rel => exact ⟨4,fun j => if j = 3 then false else F j,by decide,rfl,by rw [Pf.hs_yes bt _ 3 (by rw [HB.out];simp),Pf.hs_same bt F _ 3 (fun j hj => by rw [if_neg (by omega)]),HR.out];first | rfl | (rw [hor];rfl),fun j hj hb => by
      by_cases e : j = 3
      ·show PP j (if j = 3 then false else F j)
       rw [if_pos e,e];exact HP.out
      ·show PP j (if j = 3 then false else F j)
       rw [if_neg e];exact HF.out j (by omega) hb,hbb,B0⟩
     case measure => (simp [intOf] <;> decide)
    | true =>
     go_wp2_with fail
     go_roundw
     case rel => exact ⟨4,fun j => if j = 3 then true else F j,by decide,rfl,by rw [Pf.hs_no bt _ 3 (by simp),Pf.hs_same bt F _ 3 (fun j hj => by rw [if_neg (by omega)]),HR.out],fun j hj hb => by
      by_cases e : j = 3
      ·show PP j (if j = 3 then true else F j)
       rw [if_pos e,e];exact HP.out
      ·show PP j (if j = 3 then true else F j)
       rw [if_neg e];exact HF.out j (by omega) hb,hbb,B0⟩
     case measure => (simp [intOf] <;> decide)
  ·have hc:=HC.out 4 (by decide)
   have hz0:=hz 4 (by decide);have hcl : Pf.pw 4 = 16:=rfl;rw [hcl] at hc hz0 ⊢;obtain ⟨r,hr⟩ : ∃ z,Pf.hs bt F 4 = z:=⟨_,rfl⟩;have hb:=Pf.hs_bd bt F 4 (by decide);rw [hr,hcl] at hb;rw [hr];have hor:=Pf.u8or_16 r hb.1 hb.2;have HR:=Lib.hid hr;have HF:=Lib.hid hF;clear hr hF hcl
   cases hbt : bt 4 with
   | false =>
    rw [hbt] at hz0;have HB:=Lib.hid hbt;clear hbt hc;(go_wp2_with fail)
    go_roundw
    case rel => exact ⟨5,F,by decide,rfl,by rw [Pf.hs_no bt F 4 (by rw [HB.out];rfl),HR.out],fun j hj hb => by
     by_cases e : j = 4
     ·rw [e,HB.out] at hb;cases hb
     ·exact HF.out j (by omega) hb,hbb,B0⟩
    case measure => (simp [intOf] <;> decide)
   | true =>
    rw [hbt] at hz0;have HB:=Lib.hid hbt;have hc2:=hc hbt;have HC2:=Lib.hid hc2;clear hbt hc hc2;(go_wp2_with fail);refine (HC2.out _ hbb).mono ?_;rintro e w3 ⟨x,y,f,rfl,hb3,hp⟩;replace hbb:=keepB hbb hb3;replace B0:=B0.keep hb3;have HP:=Lib.hid hp;clear hb3 hp HC2 p0 p1 p2 p3
    cases f with
    | false =>
     go_wp2_with fail
     go_roundw
     case rel => exact ⟨5,fun j => if j = 4 then false else F j,by decide,rfl,by rw [Pf.hs_yes bt _ 4 (by rw [HB.out];simp),Pf.hs_same bt F _ 4 (fun j hj => by rw [if_neg (by omega)]),HR.out];first | rfl | (rw [hor];rfl),fun j hj hb => by
      by_cases e : j = 4
      ·show PP j (if j = 4 then false else F j)
       rw [if_pos e,e];exact HP.out
      ·show PP j (if j = 4 then false else F j)
       rw [if_neg e];exact HF.out j (by omega) hb,hbb,B0⟩
     case measure => (simp [intOf] <;> decide)
    | true =>
     go_wp2_with fail
     go_roundw
     case rel => exact ⟨5,fun j => if j = 4 then true else F j,by decide,rfl,by rw [Pf.hs_no bt _ 4 (by simp),Pf.hs_same bt F _ 4 (fun j hj => by rw [if_neg (by omega)]),HR.out],fun j hj hb => by
      by_cases e : j = 4
      ·show PP j (if j = 4 then true else F j)
       rw [if_pos e,e];exact HP.out
      ·show PP j (if j = 4 then true else F j)
       rw [if_neg e];exact HF.out j (by omega) hb,hbb,B0⟩
     case measure => (simp [intOf] <;> decide)
  ·have hcl : Pf.pw 5 = 32:=rfl
   rw [hcl];have HF:=Lib.hid hF;clear hF hcl;(go_wp2_with fail)
   go_ret
   exact ⟨F,rfl,hbb,HF.out⟩
end Go.Proofs.YtogmfebphiglaaaGreat
namespace Go.Proofs.YtogmfebphiglaaaGreat
open Go.RowKit
/-- What counterexample finds for the claim of a number. -/
def CeP (cs : List CkR) (ps : List Pf.PcR) (ws : List Pf.RwR) (rs : List (Int × Int)) (LV : Bool → Prop) (k : Nat) (f : Bool) : Prop :=
 ∃ x y,Pf.CeR cs.length (Pf.cx (cs.map Ak.dat) (ps.map Pf.PcR.L) (ws.map Pf.RwR.l) rs (2 ^ k)) (if k = 0 then LV else fun b => b = false) x y f
theorem pfces_any (A Pp Ww Rr : Option Addr) (ca cp cw cr : Nat) (cs : List CkR) (ps : List Pf.PcR) (ws : List Pf.RwR) (rs : List (Int × Int)) (LV : Bool → Prop) (w : World) (h : SvI w A Pp Ww Rr cs ps ws rs) (g : SvG cs ps ws rs)
 (hL : (∀ a b,a < cs.length → b < cs.length → Pf.cx (cs.map Ak.dat) (ps.map Pf.PcR.L) (ws.map Pf.RwR.l) rs 1 a b = false) → ∀ v,Below w.heap.size w v → Calls Tryz.prog 151 #[.agg #[.slice A cs.length ca,.slice Pp ps.length cp,.slice Ww ws.length cw,.slice Rr rs.length cr]] v fun e w' => ∃ lv,e = .returned (.bool lv)∧Below v.heap.size v w'∧LV lv)
 (k : Nat) (hk : k < 5) (hr : k = 3 → rs.length = cs.length) (v : World) (hw : Below w.heap.size w v) :
 Calls Tryz.prog 111 #[.agg #[.slice A cs.length ca,.slice Pp ps.length cp,.slice Ww ws.length cw,.slice Rr rs.length cr],.int .u8 (Pf.pw k)] v fun e w' => ∃ (x y : Int) (f : Bool),e = .returned (.tuple #[.int .i64 x,.int .i64 y,.bool f])∧Below v.heap.size v w'∧CeP cs ps ws rs LV k f:=by
 have hn6:=(Ak.chkS_good g.ck).l1;rw [List.length_map] at hn6
 unfold CeP
 have hk' : k = 0 ∨ k = 1 ∨ k = 2 ∨ k = 3 ∨ k = 4:=by omega
 rcases hk' with rfl | rfl | rfl | rfl | rfl
 ·have q:=pfce_any A Pp Ww Rr cs.length ca ps.length cp ws.length cw rs.length cr 1 187 (Pf.cx (cs.map Ak.dat) (ps.map Pf.PcR.L) (ws.map Pf.RwR.l) rs 1) LV v hn6 (fun u => pfag1_any A Pp Ww Rr cs.length ca ps.length cp ws.length cw rs.length cr u) (fun a b p u ha hb hu hB => pfcl1_any A Pp Ww Rr ca cp cw cr cs ps ws rs a b p u (h.keep (keepB hw hu)) g hB ha hb) (fun x y z u => by go_simp) (.inl rfl) (fun _ hf v hv => hL (fun a b ha hb => hf a b ha hb) v (keepB hw hv))
  refine q.mono ?_;rintro e u ⟨x,y,f,rfl,hb,hcr⟩;exact ⟨x,y,f,rfl,hb,x,y,hcr⟩
 ·have q:=pfce_any A Pp Ww Rr cs.length ca ps.length cp ws.length cw rs.length cr 2 189 (Pf.cx (cs.map Ak.dat) (ps.map Pf.PcR.L) (ws.map Pf.RwR.l) rs 2) (fun b => b = false) v hn6 (fun u => pfag2_any A Pp Ww Rr cs.length ca ps.length cp ws.length cw rs.length cr u) (fun a b p u ha hb hu hB => pfcl2_any A Pp Ww Rr ca cp cw cr cs ps ws rs a b p u (h.keep (keepB hw hu)) g hB ha hb) (fun x y z u => by go_simp) (.inr ⟨by decide,rfl⟩) (fun e => absurd e (by decide))
  refine q.mono ?_;rintro e u ⟨x,y,f,rfl,hb,hcr⟩;exact ⟨x,y,f,rfl,hb,x,y,hcr⟩
 ·have q:=pfce_any A Pp Ww Rr cs.length ca ps.length cp ws.length cw rs.length cr 4 191 (Pf.cx (cs.map Ak.dat) (ps.map Pf.PcR.L) (ws.map Pf.RwR.l) rs 4) (fun b => b = false) v hn6 (fun u => pfag3_any A Pp Ww Rr cs.length ca ps.length cp ws.length cw rs.length cr u) (fun a b p u ha hb hu hB => pfcl3_any A Pp Ww Rr ca cp cw cr cs ps ws rs a b p u (h.keep (keepB hw hu)) g hB ha hb) (fun x y z u => by go_simp) (.inr ⟨by decide,rfl⟩) (fun e => absurd e (by decide))
  refine q.mono ?_;rintro e u ⟨x,y,f,rfl,hb,hcr⟩;exact ⟨x,y,f,rfl,hb,x,y,hcr⟩
 ·have q:=pfce_any A Pp Ww Rr cs.length ca ps.length cp ws.length cw rs.length cr 8 193 (Pf.cx (cs.map Ak.dat) (ps.map Pf.PcR.L) (ws.map Pf.RwR.l) rs 8) (fun b => b = false) v hn6 (fun u => pfag4_any A Pp Ww Rr cs.length ca ps.length cp ws.length cw rs.length cr u) (fun a b p u ha hb hu hB => pfcl4_any A Pp Ww Rr ca cp cw cr cs ps ws rs a b p u (h.keep (keepB hw hu)) g hB ha hb (hr rfl)) (fun x y z u => by go_simp) (.inr ⟨by decide,rfl⟩) (fun e => absurd e (by decide))
  refine q.mono ?_;rintro e u ⟨x,y,f,rfl,hb,hcr⟩;exact ⟨x,y,f,rfl,hb,x,y,hcr⟩
 ·have q:=pfce_any A Pp Ww Rr cs.length ca ps.length cp ws.length cw rs.length cr 16 194 (Pf.cx (cs.map Ak.dat) (ps.map Pf.PcR.L) (ws.map Pf.RwR.l) rs 16) (fun b => b = false) v hn6 (fun u => pfag5_any A Pp Ww Rr cs.length ca ps.length cp ws.length cw rs.length cr u) (fun a b p u ha hb hu hB => pfcl5_any A Pp Ww Rr ca cp cw cr cs ps ws rs a b p u (h.keep (keepB hw hu)) g hB ha hb) (fun x y z u => by go_simp) (.inr ⟨by decide,rfl⟩) (fun e => absurd e (by decide))
  refine q.mono ?_;rintro e u ⟨x,y,f,rfl,hb,hcr⟩;exact ⟨x,y,f,rfl,hb,x,y,hcr⟩
end Go.Proofs.YtogmfebphiglaaaGreat


