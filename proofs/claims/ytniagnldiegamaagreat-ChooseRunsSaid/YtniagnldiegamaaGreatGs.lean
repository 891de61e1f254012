/- Package choose: the steps and the run of two valid cakes, as functions of the cutter's and the chooser's cake. What the law of package choose asks: alive. What the law of package choose asks: Cakes, fit. -/
import Derived.Test.YtniagnldiegamaaGreatGp
import Derived.Test.YtniagnldiegamaaGreatGr
import Derived.Test.YtniagnldiegamaaGreatChh
import Derived.Test.YtniagnldiegamaaGreatWf
namespace Go.Proofs.YtniagnldiegamaaGreat
open Go.RowKit
namespace Ch
def pick {α : Type} (a b c : α) : Nat → α
  | 0 => a
  | 1 => b
  | _ => c
theorem chkS_up {D : List CkD} {n : Nat} (h : Ak.chkS D 0 = 0) (hn : n ≤ 2000) : Ak.chkS D n = 0 := by
  have g := Ak.chkS_good h; exact Ak.good_chkS ⟨g.l0, g.l1, hn, g.all, g.same⟩
/-- What is asked and answered. -/
structure Rn (D : List CkD) (k j : Nat) (h1 h2 g1 g2 x y v1 v2 z : Int) : Prop where
  kj : (k = 0 ∧ j = 1) ∨ (k = 1 ∧ j = 0)
  hh : hf (Ak.dAt D k) = (h1, h2, 0)
  hg : hf (Ak.dAt D j) = (g1, g2, 0)
  hm : Ak.kS (Ak.dAt D k) 0 1 h1 h2 = (x, y, 0)
  hv : Ak.vS (Ak.dAt D j) 0 1 x y = (v1, v2, 0)
  hz : Rp.cmpS v1 v2 g1 g2 = (z, 0)
  b1 : I64 h1
  b2 : I64 h2
  b3 : I64 g1
  b4 : I64 g2
  b5 : I64 x
  b6 : I64 y
  b7 : I64 v1
  b8 : I64 v2
theorem ok64 {n d : Int} (h : Rp.Ok n d) : I64 n ∧ I64 d := by
  have := h.1; have := h.2.1; have := h.2.2.1; have := h.2.2.2.1
  unfold I64; omega
/-- The run of a cutter's and a chooser's cake. -/
theorem rn_of {c d : CkD} (hc : Ak.ckD c = 0) (hd : Ak.ckD d = 0) (hl : d.1 = c.1) : ∃ h1 h2 g1 g2 x y v1 v2 z, hf c = (h1, h2, 0) ∧ hf d = (g1, g2, 0) ∧ Ak.kS c 0 1 h1 h2 = (x, y, 0) ∧ Ak.vS d 0 1 x y = (v1, v2, 0) ∧ Rp.cmpS v1 v2 g1 g2 = (z, 0) ∧
    I64 h1 ∧ I64 h2 ∧ I64 g1 ∧ I64 g2 ∧ I64 x ∧ I64 y ∧ I64 v1 ∧ I64 v2 := by
  obtain ⟨x, y, hk, hp, D, d1, d2, dd⟩ := mark_half hc; obtain ⟨v1, v2, hv, hvo⟩ := value_at hd (by rw [hl]; exact hp) d1 d2 dd; obtain ⟨a0, a1, _, _⟩ := hf_ok hc; obtain ⟨e0, e1, _, _⟩ := hf_ok hd
  rcases hh : hf c with ⟨h1, h2, h3⟩
  rcases hg : hf d with ⟨g1, g2, g3⟩
  rw [hh] at hk a0 a1; rw [hg] at e0 e1; dsimp only at a0 a1 e0 e1 hk; subst a0 e0; have hz := Rp.cmpS_ok hvo e1; have o := pt_spec hp; exact ⟨h1, h2, g1, g2, x, y, v1, v2, _, rfl, rfl, hk, hv, hz, (ok64 a1).1, (ok64 a1).2, (ok64 e1).1, (ok64 e1).2, (ok64 o.1).1, (ok64 o.1).2, (ok64 hvo).1, (ok64 hvo).2⟩
end Ch
section
variable {D : List CkD} {k j : Nat} {h1 h2 g1 g2 x y v1 v2 z : Int}
theorem Ch.Rn.cmp (R : Ch.Rn D k j h1 h2 g1 g2 x y v1 v2 z) (v : World) : Calls Tryz.prog 113 #[.agg #[.int .i64 v1, .int .i64 v2], .agg #[.int .i64 g1, .int .i64 g2]] v fun e v' => e = .returned (.tuple #[.int .i64 z, .int .i64 0]) ∧ Below v.heap.size v v' := by
  have := Cmp_any v1 v2 g1 g2 v R.b7.1 R.b7.2 R.b8.1 R.b8.2 R.b3.1 R.b3.2 R.b4.1 R.b4.2; rw [R.hz] at this; exact this
theorem Ch.Rn.step0 (R : Ch.Rn D k j h1 h2 g1 g2 x y v1 v2 z) (hc : Ak.chkS D 0 = 0) (hl : D.length = 2) (A : Option Addr) (ca : Nat) (l : List CkR) (Q : Option Addr) (cq : Nat) (v : World) (hi : IsCs v A l) (hd : l.map Ak.dat = D) (hq : IsQs v Q []) :
    Calls Tryz.prog 55 #[.agg #[.slice A l.length ca, .slice Q ([] : List Qr).length cq, .int .i64 k, .int .i64 0, .int .i64 0, .int .i64 1, .bool false]] v (StQ D [⟨k, 2, 0, 1, h1, h2, x, y⟩] k 1 x y false v) := by
  have hk : k < D.length := by have := R.kj; omega
  have ha : Ak.ansS D ⟨(k : Int), 2, 0, 1, h1, h2, 0, 0⟩ = (x, y, 0) := by
    rw [Ak.ansS_at rfl hk, if_neg (by decide), if_pos rfl, R.hm]
  refine following0 A l.length ca Q ([] : List Qr).length cq k 0 1 false D [⟨k, 2, 0, 1, h1, h2, x, y⟩] k 1 x y false v (fun u hu => ?_); have := afterCut_good A ca l Q [] cq k 0 0 1 false h1 h2 ⟨k, 2, 0, 1, h1, h2, x, y⟩ u (hi.keep hu) (hq.keep hu); rw [hd] at this; refine this hc (by rw [← hd, List.length_map] at hk; exact hk) R.hh R.b1 R.b2 ?_ ?_
  · rw [Ak.putE_at (n := ([] : List Qr).length) hc ha]
    rfl
  · unfold Ak.told
    rw [ha]
theorem Ch.Rn.step1 (R : Ch.Rn D k j h1 h2 g1 g2 x y v1 v2 z) (hc : Ak.chkS D 0 = 0) (hl : D.length = 2) (q : Qr) (A : Option Addr) (ca : Nat) (l : List CkR) (Q : Option Addr) (cq : Nat) (v : World) (hi : IsCs v A l) (hd : l.map Ak.dat = D) (hq : IsQs v Q [q]) :
    Calls Tryz.prog 55 #[.agg #[.slice A l.length ca, .slice Q [q].length cq, .int .i64 k, .int .i64 1, .int .i64 x, .int .i64 y, .bool false]] v (StQ D [q, ⟨j, 1, 0, 1, x, y, v1, v2⟩] k 2 x y (decide (0 ≤ z)) v) := by
  have hj : j < D.length := by have := R.kj; omega
  have hc1 : Ak.chkS D [q].length = 0 := Ch.chkS_up hc (by simp)
  have ha : Ak.ansS D ⟨(j : Int), 1, 0, 1, x, y, 0, 0⟩ = (v1, v2, 0) := by
    rw [Ak.ansS_at rfl hj, if_pos rfl, R.hv]
  refine following1 A l.length ca Q [q].length cq k x y false D [q, ⟨j, 1, 0, 1, x, y, v1, v2⟩] k 2 x y (decide (0 ≤ z)) v (fun u hu => ?_); have := afterChoice_good A ca l Q [q] cq k 1 x y false j g1 g2 z ⟨j, 1, 0, 1, x, y, v1, v2⟩ u (hi.keep hu) (hq.keep hu); rw [hd] at this; refine this hc1 R.kj (by rw [← hd, List.length_map] at hj; exact hj) R.b5 R.b6 R.hg ?_ ?_ R.cmp
  · rw [Ak.putE_at hc1 ha]
    rfl
  · unfold Ak.told
    rw [ha]
/-- The states, one after the other. -/
theorem Ch.Rn.reach (R : Ch.Rn D k j h1 h2 g1 g2 x y v1 v2 z) (hc : Ak.chkS D 0 = 0) (hl : D.length = 2) (s : Nat) (hs : s ≤ 2) (A : Option Addr) (ca : Nat) (cs : List CkR) (w : World) (h : IsCs w A cs) (hD : cs.map Ak.dat = D) :
    Calls Tryz.prog 28 #[.slice A cs.length ca, .int .i64 k, .int .i64 (s : Nat)] w (StR D (Ch.pick [] [⟨k, 2, 0, 1, h1, h2, x, y⟩] [⟨k, 2, 0, 1, h1, h2, x, y⟩, ⟨j, 1, 0, 1, x, y, v1, v2⟩] s) k (s : Nat) (Ch.pick 0 x x s) (Ch.pick 1 y y s) (Ch.pick false false (decide (0 ≤ z)) s) w) := by
  refine reached_good A ca cs k s D (Ch.pick [] [⟨k, 2, 0, 1, h1, h2, x, y⟩] [⟨k, 2, 0, 1, h1, h2, x, y⟩, ⟨j, 1, 0, 1, x, y, v1, v2⟩]) (Ch.pick 0 x x) (Ch.pick 1 y y) (Ch.pick false false (decide (0 ≤ z))) w h hD hc (by rw [← hD, List.length_map] at hl; exact hl) (by have := R.kj; omega) ⟨rfl, rfl, rfl, rfl⟩ (fun i hi A ca l Q cq v h1 h2 h3 => ?_)
  rcases (show i = 0 ∨ i = 1 by omega) with rfl | rfl
  · exact R.step0 hc hl A ca l Q cq v h1 h2 h3
  · exact R.step1 hc hl _ A ca l Q cq v h1 h2 h3
end
section
variable {D : List CkD} {h1 h2 g1 g2 x y v1 v2 z : Int}
theorem cat0_len {l : List CkR} {len : Int} (hd : l.map Ak.dat = D) (hl : D.length = 2) (hn : (Ak.dAt D 0).1 = len) : (Ak.cat l 0).len = len := by
  have h2 : 0 < l.length := by rw [← List.length_map (f := Ak.dat), hd]; omega
  rw [← hn, ← hd, Ak.dAt_map l h2]
  rfl
/-- The agent 0 cuts. -/
theorem Ch.Rn.run0 (R : Ch.Rn D 0 1 h1 h2 g1 g2 x y v1 v2 z) (hc : Ak.chkS D 0 = 0) (hl : D.length = 2) (len : Int) (hn : (Ak.dAt D 0).1 = len) (A : Option Addr) (ca : Nat) (cs : List CkR) (w : World) (h : IsCs w A cs) (hD : cs.map Ak.dat = D) :
    Calls Tryz.prog 10 #[.slice A cs.length ca, .int .i64 0] w (RunQ [⟨0, 2, 0, 1, h1, h2, x, y⟩, ⟨1, 1, 0, 1, x, y, v1, v2⟩] (if 0 ≤ z then x else 0) (if 0 ≤ z then y else 1) (if 0 ≤ z then len else x) (if 0 ≤ z then 1 else y) (if 0 ≤ z then 0 else x) (if 0 ≤ z then 1 else y) (if 0 ≤ z then x else len) (if 0 ≤ z then y else 1) w) := by
  refine run_of A ca cs.length 0 x y (decide (0 ≤ z)) D _ _ _ _ _ _ _ _ _ w (fun v hv => R.reach hc hl 2 (Nat.le_refl _) A ca cs v (h.keep hv) hD) (fun A ca l Q n cq v hi hd => ?_)
  have hl2 : l.length = 2 := by rw [← List.length_map (f := Ak.dat), hd]; exact hl
  have hlen := cat0_len hd hl hn
  by_cases hz : 0 ≤ z
  · simp only [if_pos hz, decide_eq_true hz]
    exact divided0t A ca l Q n cq 2 x y len v hi hl2 hlen
  · simp only [if_neg hz, decide_eq_false hz]
    exact divided0f A ca l Q n cq 2 x y len v hi hl2 hlen
/-- The agent 1 cuts. -/
theorem Ch.Rn.run1 (R : Ch.Rn D 1 0 h1 h2 g1 g2 x y v1 v2 z) (hc : Ak.chkS D 0 = 0) (hl : D.length = 2) (len : Int) (hn : (Ak.dAt D 0).1 = len) (A : Option Addr) (ca : Nat) (cs : List CkR) (w : World) (h : IsCs w A cs) (hD : cs.map Ak.dat = D) :
    Calls Tryz.prog 10 #[.slice A cs.length ca, .int .i64 1] w (RunQ [⟨1, 2, 0, 1, h1, h2, x, y⟩, ⟨0, 1, 0, 1, x, y, v1, v2⟩] (if 0 ≤ z then 0 else x) (if 0 ≤ z then 1 else y) (if 0 ≤ z then x else len) (if 0 ≤ z then y else 1) (if 0 ≤ z then x else 0) (if 0 ≤ z then y else 1) (if 0 ≤ z then len else x) (if 0 ≤ z then 1 else y) w) := by
  refine run_of A ca cs.length 1 x y (decide (0 ≤ z)) D _ _ _ _ _ _ _ _ _ w (fun v hv => R.reach hc hl 2 (Nat.le_refl _) A ca cs v (h.keep hv) hD) (fun A ca l Q n cq v hi hd => ?_)
  have hl2 : l.length = 2 := by rw [← List.length_map (f := Ak.dat), hd]; exact hl
  have hlen := cat0_len hd hl hn
  by_cases hz : 0 ≤ z
  · simp only [if_pos hz, decide_eq_true hz]
    exact divided1t A ca l Q n cq 2 x y len v hi hl2 hlen
  · simp only [if_neg hz, decide_eq_false hz]
    exact divided1f A ca l Q n cq 2 x y len v hi hl2 hlen
end
end Go.Proofs.YtniagnldiegamaaGreat
namespace Go.Proofs.YtniagnldiegamaaGreat
open Go.RowKit
theorem BK.call {w v : World} {p : Nat} {l : List Value} (h : BK w p l) (hb : Below w.heap.size w v) : BK v p l := h.keep hb
theorem BK.size {w : World} {p : Nat} {l : List Value} (h : BK w p l) : p < w.heap.size := h.lt
end Go.Proofs.YtniagnldiegamaaGreat
namespace Go.Proofs.YtniagnldiegamaaGreat
open Go.RowKit
namespace Ch
/-- The error of cakes and a cutter. -/
def cakesE (D : List CkD) (K : Int) : Int := if Ak.chkS D 0 ≠ 0 then Ak.chkS D 0 else if D.length ≠ 2 ∨ K < 0 ∨ 1 < K then 2 else 0
end Ch
set_option linter.unusedSimpArgs false in
set_option maxHeartbeats 8000000 in
set_option maxRecDepth 100000 in
theorem cakes_any (A : Option Addr) (ca : Nat) (cs : List CkR) (K : Int) (w : World) (h : IsCs w A cs) :
    Calls Tryz.prog 29 #[.slice A cs.length ca, .int .i64 K] w fun e w' => e = .returned (.int .i64 (Ch.cakesE (cs.map Ak.dat) K)) ∧ Below w.heap.size w w' := by
  have ch := fun v (hv : Below w.heap.size w v) => rAskCheck_any A ca cs none 0 0 v (by simp) (h.keep hv)
  unfold Ch.cakesE
  rw [List.length_map]; clear h
  by_cases h1 : Ak.chkS (cs.map Ak.dat) 0 = 0
  case neg =>
    have n1 : (Ak.chkS (cs.map Ak.dat) 0 != 0) = true := by rw [bne_iff_ne]; exact h1
    rw [if_pos h1]; clear h1
    generalize Ak.chkS (cs.map Ak.dat) 0 = z at *
    have CH := Lib.hid ch; clear ch
    go_enter Tryz.func29, Tryz.ntmps29
    (go_wp2_with fail); refine (CH.out _ (Below.refl _ _)).mono ?_; rintro e w1 ⟨rfl, hb⟩; (go_wp2_with fail)
    go_ret
    exact ⟨rfl, hb⟩
  rw [h1] at ch; rw [if_neg (fun k => k h1)]; have CH := Lib.hid ch; have e0 : ((0 : Int) != 0) = false := rfl; clear ch h1
  by_cases hl : cs.length = 2
  case neg =>
    rw [if_pos (.inl hl)]
    have e2 : (((cs.length : Nat) : Int) != 2) = true := by rw [bne_iff_ne]; omega
    clear hl
    go_enter Tryz.func29, Tryz.ntmps29
    (go_wp2_with fail); refine (CH.out _ (Below.refl _ _)).mono ?_; rintro e w1 ⟨rfl, hb⟩; (go_wp2_with fail)
    go_ret
    exact ⟨rfl, hb⟩
  by_cases hk0 : K < 0
  case pos =>
    rw [if_pos (.inr (.inl hk0))]
    have e2 : (((cs.length : Nat) : Int) != 2) = false := by rw [hl]; rfl
    clear hl
    go_enter Tryz.func29, Tryz.ntmps29
    (go_wp2_with fail); refine (CH.out _ (Below.refl _ _)).mono ?_; rintro e w1 ⟨rfl, hb⟩; (go_wp2_with fail)
    go_ret
    exact ⟨rfl, hb⟩
  by_cases hk1 : 1 < K
  case pos =>
    rw [if_pos (.inr (.inr hk1))]
    have e2 : (((cs.length : Nat) : Int) != 2) = false := by rw [hl]; rfl
    clear hl
    go_enter Tryz.func29, Tryz.ntmps29
    (go_wp2_with fail); refine (CH.out _ (Below.refl _ _)).mono ?_; rintro e w1 ⟨rfl, hb⟩; (go_wp2_with fail)
    go_ret
    exact ⟨rfl, hb⟩
  rw [if_neg (by omega)]
  have e2 : (((cs.length : Nat) : Int) != 2) = false := by rw [hl]; rfl
  clear hl
  go_enter Tryz.func29, Tryz.ntmps29
  (go_wp2_with fail); refine (CH.out _ (Below.refl _ _)).mono ?_; rintro e w1 ⟨rfl, hb⟩; (go_wp2_with fail)
  go_ret
  exact ⟨rfl, hb⟩
end Go.Proofs.YtniagnldiegamaaGreat

