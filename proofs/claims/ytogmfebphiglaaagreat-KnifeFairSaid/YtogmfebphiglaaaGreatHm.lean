/- Sets of points as lists of ends: the sweep over two lists of ends, and the reference's way over all points, give the same spans. Lists of spans: what Check answers, as a function on lists; spans that came in. Rows of ratios and of spans: of the call's own, and such as came in. -/
import Derived.Test.YtogmfebphiglaaaGreatM12
import Derived.Test.YtogmfebphiglaaaGreatGf
namespace Go.Proofs.YtogmfebphiglaaaGreat
namespace Pc

/-- Strictly increasing. -/
def Inc : List Rat → Prop
 | [] => True
 | p :: l => (∀ q ∈ l,p < q)∧Inc l

def near (a b : List Rat) : Rat :=
 match a,b with
 | [],[] => 0
 | [],q :: _ => q
 | p :: _,[] => p
 | p :: _,q :: _ => if q < p then q else p

def off (p : Rat) : List Rat → List Rat
 | [] => []
 | q :: l => if q = p then l else q :: l

def hit (p : Rat) : List Rat → Bool
 | [] => false
 | q :: _ => decide (q = p)

theorem off_len (p : Rat) (l : List Rat) : (off p l).length ≤ l.length:=by
 cases l with
 | nil => simp [off]
 | cons q l => simp only [off];split <;> simp

theorem near_hit (a b : List Rat) (h : ¬ (a = []∧b = [])) : hit (near a b) a = true ∨ hit (near a b) b = true:=by
 cases a with
 | nil => cases b with
  | nil => simp at h
  | cons q b => right;simp [near,hit]
 | cons p a => cases b with
  | nil => left;simp [near,hit]
  | cons q b => by_cases k : q < p <;> simp [near,hit,k]

theorem off_lt (p : Rat) (l : List Rat) (h : hit p l = true) : (off p l).length < l.length:=by
 cases l with
 | nil => simp [hit] at h
 | cons q l => simp only [hit,decide_eq_true_eq] at h;simp [off,h]

/-- What the sweep gives. -/
def swp (f : Bool → Bool → Bool) (a b : List Rat) (x y k : Bool) : List Rat :=
 if _h : a = []∧b = [] then []
 else
  let p:=near a b
  let x':=xor x (hit p a)
  let y':=xor y (hit p b)
  if f x' y' = k then swp f (off p a) (off p b) x' y' k
  else p :: swp f (off p a) (off p b) x' y' (f x' y')
termination_by a.length + b.length
decreasing_by
 all_goals
  have:=near_hit a b (by assumption);have h1:=off_len (near a b) a;have h2:=off_len (near a b) b
  rcases this with k | k
  ·have:=off_lt _ _ k;omega
  ·have:=off_lt _ _ k;omega

def mrg (a b : List Rat) : List Rat :=
 if _h : a = []∧b = [] then [] else near a b :: mrg (off (near a b) a) (off (near a b) b)
termination_by a.length + b.length
decreasing_by
 all_goals
  have:=near_hit a b (by assumption);have h1:=off_len (near a b) a;have h2:=off_len (near a b) b
  rcases this with k | k
  ·have:=off_lt _ _ k;omega
  ·have:=off_lt _ _ k;omega

/-- Parity of the ends up to p. -/
def par : List Rat → Bool → Rat → Bool
 | [],x,_ => x
 | q :: l,x,p => if q ≤ p then par l (!x) p else x

def chg (t : Rat → Bool) : List Rat → Bool → List Rat
 | [],_ => []
 | p :: l,k => if t p = k then chg t l k else p :: chg t l (t p)

theorem chg_congr {t u : Rat → Bool} : ∀ {l : List Rat} {k : Bool},(∀ p ∈ l,t p = u p) → chg t l k = chg u l k
 | [],_,_ => rfl
 | p :: l,k,h => by
  have hp:=h p (by simp)
  have ih:=fun k => chg_congr (t:=t) (u:=u) (l:=l) (k:=k) (fun q hq => h q (by simp [hq]))
  simp only [chg,hp,ih]

theorem inc_off {p : Rat} {l : List Rat} (h : Inc l) : Inc (off p l):=by
 cases l with
 | nil => exact h
 | cons q l => simp only [off];split
               ·exact h.2
               ·exact h

theorem mem_off {p r : Rat} {l : List Rat} (h : r ∈ off p l) : r ∈ l:=by
 cases l with
 | nil => simp [off] at h
 | cons q l => simp only [off] at h;split at h
               ·exact List.mem_cons_of_mem _ h
               ·exact h

theorem near_le {a b : List Rat} (ha : Inc a) (hb : Inc b) : (∀ r ∈ off (near a b) a,near a b < r)∧(∀ r ∈ off (near a b) b,near a b < r):=by
 cases a with
 | nil => cases b with
  | nil => simp [off]
  | cons q b => refine ⟨by simp [off],?_⟩;intro r hr;simp [near,off] at hr ⊢;exact hb.1 r hr
 | cons p a => cases b with
  | nil => refine ⟨?_,by simp [off]⟩;intro r hr;simp [near,off] at hr ⊢;exact ha.1 r hr
  | cons q b =>
   by_cases k : q < p
   ·have hne : p ≠ q:=by grind
    simp only [near,if_pos k,off,if_neg hne,if_true]
    refine ⟨?_,fun r hr => hb.1 r hr⟩;intro r hr
    rcases List.mem_cons.1 hr with rfl | hr
    ·exact k
    ·have:=ha.1 r hr;grind
   ·simp only [near,if_neg k,off,if_true]
    refine ⟨fun r hr => ha.1 r hr,?_⟩
    by_cases e : q = p
    ·intro r hr;rw [if_pos e] at hr;have:=hb.1 r hr;grind
    ·intro r hr;rw [if_neg e] at hr
     rcases List.mem_cons.1 hr with rfl | hr
     ·grind
     ·have:=hb.1 r hr;grind

theorem mem_mrg : ∀ (n : Nat) (a b : List Rat),a.length + b.length ≤ n → ∀ r,r ∈ mrg a b ↔ r ∈ a ∨ r ∈ b:=by
 intro n
 induction n with
 | zero => intro a b h r;have ha : a = []:=List.eq_nil_of_length_eq_zero (by omega);have hb : b = []:=List.eq_nil_of_length_eq_zero (by omega);subst ha hb;unfold mrg;simp
 | succ n ih =>
  intro a b h r
  by_cases k : a = []∧b = []
  ·obtain ⟨rfl,rfl⟩:=k;unfold mrg;simp
  ·unfold mrg;rw [dif_neg k]
   have hh:=near_hit a b k;have h1:=off_len (near a b) a;have h2:=off_len (near a b) b
   have hl : (off (near a b) a).length + (off (near a b) b).length ≤ n:=by
    rcases hh with k | k
    ·have:=off_lt _ _ k;omega
    ·have:=off_lt _ _ k;omega
   rw [List.mem_cons,ih _ _ hl]
   have mo : ∀ l : List Rat,∀ p,r ∈ l → r = p ∨ r ∈ off p l:=by
    intro l p hr
    cases l with
    | nil => simp at hr
    | cons q l => simp only [off];split
                  ·rename_i e;subst e;rcases List.mem_cons.1 hr with h | h;exact Or.inl h;exact Or.inr h
                  ·exact Or.inr hr
   have hm : ∀ l : List Rat,∀ p,hit p l = true → p ∈ l:=by
    intro l p hp;cases l with
    | nil => simp [hit] at hp
    | cons q l => simp only [hit,decide_eq_true_eq] at hp;simp [hp]
   constructor
   ·rintro (rfl | h | h)
    ·rcases hh with k | k
     ·exact Or.inl (hm _ _ k)
     ·exact Or.inr (hm _ _ k)
    ·exact Or.inl (mem_off h)
    ·exact Or.inr (mem_off h)
   ·rintro (h | h)
    ·rcases mo _ (near a b) h with h | h
     ·exact Or.inl h
     ·exact Or.inr (Or.inl h)
    ·rcases mo _ (near a b) h with h | h
     ·exact Or.inl h
     ·exact Or.inr (Or.inr h)

theorem inc_mrg : ∀ (n : Nat) (a b : List Rat),a.length + b.length ≤ n → Inc a → Inc b → Inc (mrg a b):=by
 intro n
 induction n with
 | zero => intro a b h _ _;have ha : a = []:=List.eq_nil_of_length_eq_zero (by omega);have hb : b = []:=List.eq_nil_of_length_eq_zero (by omega);subst ha hb;unfold mrg;simp [Inc]
 | succ n ih =>
  intro a b h ha hb
  by_cases k : a = []∧b = []
  ·obtain ⟨rfl,rfl⟩:=k;unfold mrg;simp [Inc]
  ·unfold mrg;rw [dif_neg k]
   have hh:=near_hit a b k;have h1:=off_len (near a b) a;have h2:=off_len (near a b) b
   have hl : (off (near a b) a).length + (off (near a b) b).length ≤ n:=by
    rcases hh with k | k
    ·have:=off_lt _ _ k;omega
    ·have:=off_lt _ _ k;omega
   refine ⟨?_,ih _ _ hl (inc_off ha) (inc_off hb)⟩;intro r hr;rw [mem_mrg _ _ _ hl] at hr;have:=near_le ha hb
   rcases hr with hr | hr
   ·exact this.1 r hr
   ·exact this.2 r hr

theorem par_hit {p : Rat} {l : List Rat} (h : Inc l) (hl : ∀ r ∈ off p l,p < r) (x : Bool) : par l x p = xor x (hit p l):=by
 cases l with
 | nil => simp [par,hit]
 | cons q l =>
  by_cases e : q = p
  ·subst e
   have hl : ∀ r ∈ l,q < r:=by simpa [off] using hl
   have : ∀ (l : List Rat) (z : Bool),(∀ r ∈ l,q < r) → par l z q = z:=by
    intro l z h;cases l with
    | nil => rfl
    | cons r l => have:=h r (by simp);simp only [par];rw [if_neg (by grind)]
   simp only [par,hit,decide_true]
   rw [if_pos (by grind),this _ _ hl];simp
  ·have hq : p < q:=hl q (by simp [off,e])
   simp only [par,hit,decide_eq_false e]
   rw [if_neg (by grind)];simp

theorem par_off {p r : Rat} {l : List Rat} (hr : p < r) (x : Bool) : par (off p l) (xor x (hit p l)) r = par l x r:=by
 cases l with
 | nil => simp [off,hit]
 | cons q l =>
  by_cases e : q = p
  ·subst e
   simp only [off,hit,if_true,decide_true,par]
   rw [if_pos (by grind)];simp
  ·simp only [off,hit,if_neg e,decide_eq_false e];simp

theorem swp_chg (f : Bool → Bool → Bool) : ∀ (n : Nat) (a b : List Rat),a.length + b.length ≤ n → Inc a → Inc b → ∀ x y k,swp f a b x y k = chg (fun p => f (par a x p) (par b y p)) (mrg a b) k:=by
 intro n
 induction n with
 | zero => intro a b h _ _ x y k;have ha : a = []:=List.eq_nil_of_length_eq_zero (by omega);have hb : b = []:=List.eq_nil_of_length_eq_zero (by omega);subst ha hb;unfold swp mrg;simp [chg]
 | succ n ih =>
  intro a b h ha hb x y k
  by_cases kk : a = []∧b = []
  ·obtain ⟨rfl,rfl⟩:=kk;unfold swp mrg;simp [chg]
  ·unfold swp mrg;rw [dif_neg kk,dif_neg kk]
   have hh:=near_hit a b kk;have h1:=off_len (near a b) a;have h2:=off_len (near a b) b
   have hl : (off (near a b) a).length + (off (near a b) b).length ≤ n:=by
    rcases hh with k | k
    ·have:=off_lt _ _ k;omega
    ·have:=off_lt _ _ k;omega
   have hn:=near_le ha hb;have IH:=ih _ _ hl (inc_off ha) (inc_off hb) (xor x (hit (near a b) a)) (xor y (hit (near a b) b))
   have hc : ∀ k,chg (fun p => f (par (off (near a b) a) (xor x (hit (near a b) a)) p) (par (off (near a b) b) (xor y (hit (near a b) b)) p)) (mrg (off (near a b) a) (off (near a b) b)) k = chg (fun p => f (par a x p) (par b y p)) (mrg (off (near a b) a) (off (near a b) b)) k:=by
    intro k
    refine chg_congr fun r hr => ?_
    rw [mem_mrg _ _ _ hl] at hr
    have : near a b < r:=by
     rcases hr with hr | hr
     ·exact hn.1 r hr
     ·exact hn.2 r hr
    simp only [par_off this]
   simp only [chg,IH,hc,par_hit ha hn.1,par_hit hb hn.2]

/-- The ends of spans. -/
def ends : List (Rat × Rat) → List Rat
 | [] => []
 | s :: l => s.1 :: s.2 :: ends l

def pairs : List Rat → List (Rat × Rat)
 | p :: q :: l => (p,q) :: pairs l
 | _ => []

def inn (l : List (Rat × Rat)) (p : Rat) : Bool:=l.any fun s => !decide (p < s.1) && decide (p < s.2)

theorem par_far : ∀ (l : List Rat) (z : Bool) (q : Rat),(∀ r ∈ l,q < r) → par l z q = z
 | [],_,_,_ => rfl
 | r :: l,z,q,h => by have:=h r (by simp);simp only [par];rw [if_neg (by grind)]

theorem inn_far : ∀ (l : List (Rat × Rat)) (q : Rat),(∀ r ∈ ends l,q < r) → inn l q = false
 | [],_,_ => rfl
 | s :: l,q,h => by
  have h1:=h s.1 (by simp [ends]);have ih:=inn_far l q (fun r hr => h r (by simp [ends,hr]))
  unfold inn at ih ⊢
  rw [List.any_cons,ih,decide_eq_true h1];rfl

theorem inn_par : ∀ (l : List (Rat × Rat)),Inc (ends l) → ∀ p,inn l p = par (ends l) false p
 | [],_,_ => rfl
 | s :: l,h,p => by
  have ih:=inn_par l h.2.2 p;have h12 : s.1 < s.2:=h.1 s.2 (by simp);have hi : inn (s :: l) p = ((!decide (p < s.1) && decide (p < s.2)) || inn l p):=rfl;rw [hi]
  simp only [ends,par]
  by_cases a : p < s.1
  ·have hf:=inn_far l p (fun r hr => by have:=h.2.1 r hr;grind)
   rw [hf,if_neg (by grind),decide_eq_true a];rfl
  ·by_cases b : p < s.2
   ·rw [if_pos (by grind),if_neg (by grind),decide_eq_false a,decide_eq_true b];rfl
   ·rw [if_pos (by grind),if_pos (by grind),decide_eq_false a,decide_eq_false b];simpa using ih

end Pc
end Go.Proofs.YtogmfebphiglaaaGreat
namespace Go.Proofs.YtogmfebphiglaaaGreat
open Go.RowKit
/-- A span, as it came in: from (numerator, denominator), to (numerator, denominator). -/
structure Raw where
 a : Int
 b : Int
 c : Int
 d : Int
namespace Pc
instance : Inhabited Raw:=⟨⟨0,0,0,0⟩⟩
def Raw64 (s : Raw) : Prop:=(I64 s.a∧I64 s.b)∧I64 s.c∧I64 s.d
def lessB (n d m c : Int) : Bool:=decide (Rp.Ok n d∧Rp.Ok m c∧Rp.q n d < Rp.q m c)
def spanB (s : Raw) : Bool:=lessB s.a s.b s.c s.d
def at_ (l : List Raw) (k : Nat) : Raw:=l.getD k default
def bad (l : List Raw) (k : Nat) : Bool:=!spanB (at_ l k) || (decide (0 < k) && !lessB (at_ l (k - 1)).c (at_ l (k - 1)).d (at_ l k).a (at_ l k).b)
/-- Check's answer. -/
def chk (l : List Raw) : Int:=if 60 < l.length then 4 else if (List.range l.length).any (bad l) then 8 else 0
theorem at_lt {l : List Raw} {k : Nat} (h : k < l.length) : at_ l k = l[k]:=by unfold at_;simp [h]
theorem chk_many {l : List Raw} (h : 60 < l.length) : chk l = 4:=by unfold chk;rw [if_pos h]
theorem chk_bad {l : List Raw} {k : Nat} (h : ¬ 60 < l.length) (hk : k < l.length) (hb : bad l k = true) : chk l = 8:=by
 unfold chk
 rw [if_neg h,if_pos];rw [List.any_eq_true];exact ⟨k,by simpa using hk,hb⟩
theorem chk_ok {l : List Raw} (h : ¬ 60 < l.length) (hb : ∀ k,k < l.length → bad l k = false) : chk l = 0:=by
 unfold chk
 rw [if_neg h,if_neg];intro hh;rw [List.any_eq_true] at hh;obtain ⟨k,hk,h1⟩:=hh;rw [hb k (by simpa using hk)] at h1
 cases h1
def Fit (r : Rat) : Prop:=Rp.Ok r.num r.den
def raw (s : Rat × Rat) : Raw:=⟨s.1.num,s.1.den,s.2.num,s.2.den⟩
def toQ (s : Raw) : Rat × Rat:=(Rp.q s.a s.b,Rp.q s.c s.d)
theorem raw_toQ {s : Raw} (h : spanB s = true) : raw (toQ s) = s:=by
 obtain ⟨h1,h2,_⟩:=of_decide_eq_true h
 unfold raw toQ
 simp only [Rp.q_num h1,Rp.q_denI h1,Rp.q_num h2,Rp.q_denI h2]
theorem fit_q {n d : Int} (h : Rp.Ok n d) : Fit (Rp.q n d):=by unfold Fit;rw [Rp.q_num h,Rp.q_denI h];exact h
theorem bad_first {l : List Raw} {s : Raw} (h : bad (s :: l) 0 = false) : spanB s = true:=by
 unfold bad at h
 simpa [at_] using h
theorem bad_next {l : List Raw} {s : Raw} {k : Nat} (h : bad (s :: l) (k + 1) = false) : bad l k = false:=by
 unfold bad at h ⊢
 have e : at_ (s :: l) (k + 1) = at_ l k:=by simp [at_]
 rw [e] at h
 cases k with
 | zero => simp at h ⊢;exact h.1
 | succ k =>
  have e2 : at_ (s :: l) (k + 1 + 1 - 1) = at_ l (k + 1 - 1):=by simp [at_]
  rw [e2] at h
  simpa using h
theorem bad_gap {l : List Raw} {s t : Raw} (h : bad (s :: t :: l) 1 = false) : lessB s.c s.d t.a t.b = true:=by
 unfold bad at h
 simp [at_] at h
 exact h.2
theorem good_of : ∀ {l : List Raw},(∀ k,k < l.length → bad l k = false) → (l.map toQ).map raw = l∧Inc (ends (l.map toQ))∧∀ r ∈ ends (l.map toQ),Fit r
 | [],_ => ⟨rfl,trivial,by simp [ends]⟩
 | s :: l,h => by
  have h0:=bad_first (h 0 (by simp));obtain ⟨i1,i2,i3⟩:=good_of (l:=l) (fun k hk => bad_next (h (k + 1) (by simpa using hk)));obtain ⟨o1,o2,o3⟩:=of_decide_eq_true h0
  have hf : ∀ r ∈ ends (l.map toQ),(toQ s).2 < r:=by
   cases l with
   | nil => simp [ends]
   | cons t l =>
    have hg:=bad_gap (h 1 (by simp));obtain ⟨_,_,g⟩:=of_decide_eq_true hg;have g' : (toQ s).2 < (toQ t).1:=g;intro r hr
    simp only [List.map_cons,ends] at hr i2
    rcases List.mem_cons.1 hr with rfl | hr
    ·exact g'
    ·have:=i2.1 r hr
     grind
  have hs : (toQ s).1 < (toQ s).2:=o3;refine ⟨by simp only [List.map_cons];rw [raw_toQ h0,i1],?_,?_⟩
  ·simp only [List.map_cons,ends]
   refine ⟨?_,hf,i2⟩;intro r hr
   rcases List.mem_cons.1 hr with rfl | hr
   ·exact hs
   ·have:=hf r hr
    grind
  ·intro r hr
   simp only [List.map_cons,ends] at hr
   rcases List.mem_cons.1 hr with rfl | hr
   ·exact fit_q o1
   ·rcases List.mem_cons.1 hr with rfl | hr
    ·exact fit_q o2
    ·exact i3 r hr
/-- Pieces: spans in order, apart, with ends that are valid. -/
structure Good (L : List (Rat × Rat)) : Prop where
 inc : Inc (ends L)
 fit : ∀ r ∈ ends L,Fit r
 len : L.length ≤ 60
theorem chk_good {l : List Raw} (h : chk l = 0) : ∃ L,l = L.map raw∧Good L:=by
 unfold chk at h
 split at h
 ·cases h
 ·split at h
  ·cases h
  ·rename_i h1 h2
   have hb : ∀ k,k < l.length → bad l k = false:=by
    intro k hk
    have h2 : (List.range l.length).any (bad l) = false:=by simpa using h2
    rw [List.any_eq_false] at h2;have:=h2 k (by simpa using hk)
    simpa using this
   obtain ⟨i1,i2,i3⟩:=good_of hb;exact ⟨l.map toQ,i1.symm,i2,i3,by rw [List.length_map];omega⟩
theorem cmp_less (n d m c : Int) : (Rp.cmpS n d m c = (-1,0)∧lessB n d m c = true) ∨ (Rp.cmpS n d m c = (1,0)∧lessB n d m c = false) ∨ (Rp.cmpS n d m c = (0,0)∧lessB n d m c = false) ∨ (Rp.cmpS n d m c = (0,8)∧lessB n d m c = false):=by
 unfold Rp.cmpS lessB
 rcases both_cases n d m c with ⟨h,hx,hy⟩ | h
 ·rw [if_pos h]
  unfold Rp.cmpQ
  by_cases a : Rp.q n d < Rp.q m c
  ·left;rw [if_pos a];exact ⟨rfl,decide_eq_true ⟨hx,hy,a⟩⟩
  ·have e : decide (Rp.Ok n d∧Rp.Ok m c∧Rp.q n d < Rp.q m c) = false:=decide_eq_false fun h => a h.2.2
   right
   rw [if_neg a,e]
   by_cases b : Rp.q m c < Rp.q n d
   ·left;rw [if_pos b];exact ⟨rfl,rfl⟩
   ·right;left;rw [if_neg b];exact ⟨rfl,rfl⟩
 ·right;right;right
  rw [if_neg (by rw [h];decide)];refine ⟨rfl,decide_eq_false fun k => ?_⟩
  unfold Rp.both Rp.chk at h
  rw [if_pos k.1,if_pos k.2.1] at h
  cases h
end Pc
/-- Spans that came in. -/
def IsS (w : World) (A : Option Addr) (xs : List Raw) : Prop :=
 (0 < xs.length → ∃ b off,A = some ⟨b,off,none⟩∧∀ i,i < xs.length → w.cell? ⟨b,off + i * 4,none⟩ = some (.int .i64 (Pc.at_ xs i).a)∧w.cell? ⟨b,off + i * 4 + 1,none⟩ = some (.int .i64 (Pc.at_ xs i).b) ∧
  w.cell? ⟨b,off + i * 4 + 2,none⟩ = some (.int .i64 (Pc.at_ xs i).c)∧w.cell? ⟨b,off + i * 4 + 3,none⟩ = some (.int .i64 (Pc.at_ xs i).d))∧(∀ z ∈ xs,Pc.Raw64 z)∧xs.length ≤ maxLen
theorem IsS.keep {w v : World} {A : Option Addr} {xs : List Raw} (h : IsS w A xs) (hb : Below w.heap.size w v) : IsS v A xs :=
 ⟨fun h0 => by
  obtain ⟨b,off,e,hc⟩:=h.1 h0
  exact ⟨b,off,e,fun i hi => ⟨keepC hb (hc i hi).1,keepC hb (hc i hi).2.1,keepC hb (hc i hi).2.2.1,keepC hb (hc i hi).2.2.2⟩⟩,h.2⟩
theorem IsS.bd {w : World} {A : Option Addr} {xs : List Raw} (h : IsS w A xs) (k : Nat) : Pc.Raw64 (Pc.at_ xs k):=by
 unfold Pc.at_
 rw [List.getD_eq_getElem?_getD]
 rcases Nat.lt_or_ge k xs.length with hk | hk
 ·rw [List.getElem?_eq_getElem hk]
  exact h.2.1 _ (List.getElem_mem hk)
 ·rw [List.getElem?_eq_none hk]
  exact ⟨⟨⟨by decide,by decide⟩,by decide,by decide⟩,⟨by decide,by decide⟩,by decide,by decide⟩

set_option maxHeartbeats 1000000 in
theorem pless_any (n d m c : Int) (w : World) (h1 : I64 n) (h2 : I64 d) (h3 : I64 m) (h4 : I64 c) :
 Calls Tryz.prog 184 #[.agg #[.int .i64 n,.int .i64 d],.agg #[.int .i64 m,.int .i64 c]] w fun e w' => e = .returned (.bool (Pc.lessB n d m c))∧Below w.heap.size w w':=by
 have cm:=fun v => Cmp_any n d m c v h1.1 h1.2 h2.1 h2.2 h3.1 h3.2 h4.1 h4.2
 clear h1 h2 h3 h4
 rcases Pc.cmp_less n d m c with ⟨e,k⟩ | ⟨e,k⟩ | ⟨e,k⟩ | ⟨e,k⟩ <;>
 ·rw [e] at cm
  rw [k];have CM:=Lib.hid cm;clear cm e k
  go_enter Tryz.func184,Tryz.ntmps184
  (go_wp2_with fail);refine (CM.out _).mono ?_;rintro e w1 ⟨rfl,hb1⟩;have hbb : Below w.heap.size w w1:=keepB (((Below.refl _ _).alloc (Nat.le_refl _) _).alloc (by simp) _) hb1;clear hb1 CM
  go_wp2
  go_ret
  exact ⟨rfl,hbb⟩

set_option maxHeartbeats 1000000 in
theorem isSpan_any (s : Raw) (w : World) (h : Pc.Raw64 s) :
 Calls Tryz.prog 219 #[.agg #[.int .i64 s.a,.int .i64 s.b,.int .i64 s.c,.int .i64 s.d]] w fun e w' => e = .returned (.bool (Pc.spanB s))∧Below w.heap.size w w':=by
 obtain ⟨a,b,c,d⟩:=s;obtain ⟨⟨h1,h2⟩,h3,h4⟩:=h;have L:=Lib.hid (fun v => pless_any a b c d v h1 h2 h3 h4)
 show Calls Tryz.prog 219 #[.agg #[.int .i64 a,.int .i64 b,.int .i64 c,.int .i64 d]] w fun e w' => e = .returned (.bool (Pc.lessB a b c d))∧Below w.heap.size w w'
 clear h1 h2 h3 h4
 generalize Pc.lessB a b c d = R at *
 go_enter Tryz.func219,Tryz.ntmps219
 (go_wp2_with fail);refine (L.out _).mono ?_;rintro e w1 ⟨rfl,hb1⟩;have hbb : Below w.heap.size w w1:=keepB ((Below.refl _ _).alloc (Nat.le_refl _) _) hb1;clear hb1 L
 go_wp2
 go_ret
 exact ⟨rfl,hbb⟩
end Go.Proofs.YtogmfebphiglaaaGreat
namespace Go.Proofs.YtogmfebphiglaaaGreat
open Go.RowKit
namespace Pc
def cells2 (l : List Rat) : List Value:=l.flatMap fun r => [.int .i64 r.num,.int .i64 (r.den : Int)]
def cells4 (l : List (Rat × Rat)) : List Value:=cells2 (ends l)
theorem cells2_app (l m : List Rat) : cells2 (l ++ m) = cells2 l ++ cells2 m:=List.flatMap_append
theorem ends_app : ∀ (l m : List (Rat × Rat)),ends (l ++ m) = ends l ++ ends m
 | [],_ => rfl
 | s :: l,m => by simp [ends,ends_app l m]
theorem cells4_app (l m : List (Rat × Rat)) : cells4 (l ++ m) = cells4 l ++ cells4 m:=by unfold cells4;rw [ends_app,cells2_app]
theorem cells2_len : ∀ (l : List Rat),(cells2 l).length = l.length * 2
 | [] => rfl
 | r :: l => by
  have:=cells2_len l
  unfold cells2 at this ⊢
  simp only [List.flatMap_cons,List.length_append,this,List.length_cons,List.length_nil]
  omega
theorem ends_len : ∀ (l : List (Rat × Rat)),(ends l).length = l.length * 2
 | [] => rfl
 | s :: l => by simp [ends,ends_len l];omega
theorem cells4_len (l : List (Rat × Rat)) : (cells4 l).length = l.length * 4:=by unfold cells4;rw [cells2_len,ends_len];omega
def qat (l : List Rat) (k : Nat) : Rat:=l.getD k 0
theorem qat_lt {l : List Rat} {k : Nat} (h : k < l.length) : qat l k = l[k]:=by unfold qat;simp [h]
def sat (l : List (Rat × Rat)) (k : Nat) : Rat × Rat:=l.getD k (0,0)
theorem sat_lt {l : List (Rat × Rat)} {k : Nat} (h : k < l.length) : sat l k = l[k]:=by unfold sat;simp [h]
theorem cells2_at : ∀ {l : List Rat} {k : Nat},k < l.length → (cells2 l)[k * 2]? = some (.int .i64 (qat l k).num)∧(cells2 l)[k * 2 + 1]? = some (.int .i64 ((qat l k).den : Int))
 | r :: l,0,_ => ⟨rfl,rfl⟩
 | r :: l,k + 1,h => by
  have ih:=cells2_at (l:=l) (k:=k) (by simpa using h);have e : cells2 (r :: l) = .int .i64 r.num :: .int .i64 (r.den : Int) :: cells2 l:=rfl;rw [e,show (k + 1) * 2 = k * 2 + 1 + 1 by omega,show k * 2 + 1 + 1 + 1 = (k * 2 + 1) + 1 + 1 by omega]
  simp only [List.getElem?_cons_succ]
  exact ih
theorem ends_at : ∀ {l : List (Rat × Rat)} {k : Nat},k < l.length → qat (ends l) (k * 2) = (sat l k).1∧qat (ends l) (k * 2 + 1) = (sat l k).2
 | s :: l,0,_ => ⟨rfl,rfl⟩
 | s :: l,k + 1,h => by
  have ih:=ends_at (l:=l) (k:=k) (by simpa using h)
  unfold qat sat at ih ⊢
  rw [show (k + 1) * 2 = k * 2 + 1 + 1 by omega,show k * 2 + 1 + 1 + 1 = (k * 2 + 1) + 1 + 1 by omega]
  simpa [ends] using ih
theorem mem_ends1 {l : List (Rat × Rat)} {k : Nat} (h : k < l.length) : (sat l k).1 ∈ ends l∧(sat l k).2 ∈ ends l:=by
 have e:=ends_at h;have hl:=ends_len l;rw [← e.1,← e.2,qat_lt (by omega),qat_lt (by omega)];exact ⟨List.getElem_mem _,List.getElem_mem _⟩
theorem take_snoc {α : Type} [Inhabited α] (l : List α) (d : α) {k : Nat} (h : k < l.length) : l.take (k + 1) = l.take k ++ [l.getD k d]:=by
 rw [List.take_add_one,List.getElem?_eq_getElem h]
 simp [h]
theorem fit_bd {r : Rat} (h : Fit r) : (-1000000000000000000 ≤ r.num∧r.num ≤ 1000000000000000000)∧1 ≤ (r.den : Int)∧(r.den : Int) ≤ 1000000000000000000:=by
 obtain ⟨h1,h2,h3,h4,_⟩:=h;exact ⟨⟨h3,h4⟩,h1,h2⟩
theorem at_map (L : List (Rat × Rat)) {k : Nat} (h : k < L.length) : at_ (L.map raw) k = raw (sat L k):=by
 rw [at_lt (by simpa using h),sat_lt h]
 simp
end Pc
/-- Ratios that came in, all of them valid. -/
def IsQ (w : World) (A : Option Addr) (l : List Rat) : Prop :=
 0 < l.length → ∃ b off,A = some ⟨b,off,none⟩∧∀ i,i < l.length → w.cell? ⟨b,off + i * 2,none⟩ = some (.int .i64 (Pc.qat l i).num)∧w.cell? ⟨b,off + i * 2 + 1,none⟩ = some (.int .i64 ((Pc.qat l i).den : Int))
theorem IsQ.keep {w v : World} {A : Option Addr} {l : List Rat} (h : IsQ w A l) (hb : Below w.heap.size w v) : IsQ v A l:=fun h0 => by
 obtain ⟨b,off,e,hc⟩:=h h0;exact ⟨b,off,e,fun i hi => ⟨keepC hb (hc i hi).1,keepC hb (hc i hi).2⟩⟩
theorem isQ_row {w : World} {B : Nat} {e : TypeId} {A : Option Addr} {n cap : Nat} {l : List Rat} (h : w.ownsRow B e 2 (.slice A n cap) n (Pc.cells2 l)) (hn : n = l.length) : IsQ w A l:=fun h0 => by
 obtain ⟨g,cap',hv,_,hlt⟩:=World.ownsRow.form h (by omega)
 simp only [Value.slice.injEq] at hv
 obtain ⟨rfl,_,rfl⟩:=hv;refine ⟨g,0,rfl,fun i hi => ?_⟩;rw [Nat.zero_add,World.ownsRow.cellAt h (i * 2) (by omega),World.ownsRow.cellAt h (i * 2 + 1) (by omega)];exact Pc.cells2_at hi
theorem ratInfo : (Tryz.prog.info? 31).map (fun i => (i.zero,i.size,i.bytes)) = some (some (.agg #[.int .i64 0,.int .i64 0]),2,16):=by kernel_rfl
theorem spanInfo : (Tryz.prog.info? 70).map (fun i => (i.zero,i.size,i.bytes)) = some (some (.agg #[.int .i64 0,.int .i64 0,.int .i64 0,.int .i64 0]),4,32):=by kernel_rfl
/-- A piece that came in. -/
theorem IsS.cell {w : World} {A : Option Addr} {L : List (Rat × Rat)} (h : IsS w A (L.map Pc.raw)) : ∃ b off,(0 < L.length → A = some ⟨b,off,none⟩)∧∀ i,i < L.length → w.cell? ⟨b,off + i * 4,none⟩ = some (.int .i64 (Pc.sat L i).1.num)∧w.cell? ⟨b,off + i * 4 + 1,none⟩ = some (.int .i64 ((Pc.sat L i).1.den : Int)) ∧
 w.cell? ⟨b,off + i * 4 + 2,none⟩ = some (.int .i64 (Pc.sat L i).2.num)∧w.cell? ⟨b,off + i * 4 + 3,none⟩ = some (.int .i64 ((Pc.sat L i).2.den : Int)):=by
 by_cases h0 : 0 < L.length
 ·obtain ⟨b,off,e,hc⟩:=h.1 (by rw [List.length_map];exact h0)
  refine ⟨b,off,fun _ => e,fun i hi => ?_⟩;have:=hc i (by rw [List.length_map];exact hi);rw [Pc.at_map L hi] at this;exact this
 ·exact ⟨0,0,fun k => absurd k h0,fun i hi => absurd hi (by omega)⟩
end Go.Proofs.YtogmfebphiglaaaGreat


