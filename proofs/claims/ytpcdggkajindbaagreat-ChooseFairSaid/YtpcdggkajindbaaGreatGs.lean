/- Package choose: the steps and the run of two valid cakes, as functions of the cutter's and the chooser's cake. What the law of package choose asks: alive. What the law of package choose asks: Cakes, fit. -/
import Derived.Test.YtpcdggkajindbaaGreatGp
import Derived.Test.YtpcdggkajindbaaGreatGr
import Derived.Test.YtpcdggkajindbaaGreatGw
namespace Go.Proofs.YtpcdggkajindbaaGreat
open Go.RowKit
namespace Ch
def pick {α : Type} (a b c : α) : Nat → α
  | 0 => a
  | 1 => b
  | _ => c
theorem chkS_up {D : List CkD} {n : Nat} (h : Ak.chkS D 0 = 0) (hn : n ≤ 2000) : Ak.chkS D n = 0 := by
  have g := Ak.chkS_good h; exact Ak.good_chkS ⟨g.l0, g.l1, hn, g.all, g.same⟩
/-- What is asked and answered. -/
structure Rn (D : List CkD) (k j : Nat) (h1 h2 g1 g2 x y v1 v2 z : Int) : Prop where
  kj : (k = 0 ∧ j = 1) ∨ (k = 1 ∧ j = 0)
  hh : hf (Ak.dAt D k) = (h1, h2, 0)
  hg : hf (Ak.dAt D j) = (g1, g2, 0)
  hm : Ak.kS (Ak.dAt D k) 0 1 h1 h2 = (x, y, 0)
  hv : Ak.vS (Ak.dAt D j) 0 1 x y = (v1, v2, 0)
  hz : Rp.cmpS v1 v2 g1 g2 = (z, 0)
  b1 : I64 h1
  b2 : I64 h2
  b3 : I64 g1
  b4 : I64 g2
  b5 : I64 x
  b6 : I64 y
  b7 : I64 v1
  b8 : I64 v2
theorem ok64 {n d : Int} (h : Rp.Ok n d) : I64 n ∧ I64 d := by
  have := h.1; have := h.2.1; have := h.2.2.1; have := h.2.2.2.1
  unfold I64; omega
/-- The run of a cutter's and a chooser's cake. -/
theorem rn_of {c d : CkD} (hc : Ak.ckD c = 0) (hd : Ak.ckD d = 0) (hl : d.1 = c.1) : ∃ h1 h2 g1 g2 x y v1 v2 z, hf c = (h1, h2, 0) ∧ hf d = (g1, g2, 0) ∧ Ak.kS c 0 1 h1 h2 = (x, y, 0) ∧ Ak.vS d 0 1 x y = (v1, v2, 0) ∧ Rp.cmpS v1 v2 g1 g2 = (z, 0) ∧
    I64 h1 ∧ I64 h2 ∧ I64 g1 ∧ I64 g2 ∧ I64 x ∧ I64 y ∧ I64 v1 ∧ I64 v2 := by
  obtain ⟨x, y, hk, hp, D, d1, d2, dd⟩ := mark_half hc; obtain ⟨v1, v2, hv, hvo⟩ := value_at hd (by rw [hl]; exact hp) d1 d2 dd; obtain ⟨a0, a1, _, _⟩ := hf_ok hc; obtain ⟨e0, e1, _, _⟩ := hf_ok hd
  rcases hh : hf c with ⟨h1, h2, h3⟩
  rcases hg : hf d with ⟨g1, g2, g3⟩
  rw [hh] at hk a0 a1; rw [hg] at e0 e1; dsimp only at a0 a1 e0 e1 hk; subst a0 e0; have hz := Rp.cmpS_ok hvo e1; have o := pt_spec hp; exact ⟨h1, h2, g1, g2, x, y, v1, v2, _, rfl, rfl, hk, hv, hz, (ok64 a1).1, (ok64 a1).2, (ok64 e1).1, (ok64 e1).2, (ok64 o.1).1, (ok64 o.1).2, (ok64 hvo).1, (ok64 hvo).2⟩
end Ch
section
variable {D : List CkD} {k j : Nat} {h1 h2 g1 g2 x y v1 v2 z : Int}
theorem Ch.Rn.cmp (R : Ch.Rn D k j h1 h2 g1 g2 x y v1 v2 z) (v : World) : Calls Tryz.prog 105 #[.agg #[.int .i64 v1, .int .i64 v2], .agg #[.int .i64 g1, .int .i64 g2]] v fun e v' => e = .returned (.tuple #[.int .i64 z, .int .i64 0]) ∧ Below v.heap.size v v' := by
  have := Cmp_any v1 v2 g1 g2 v R.b7.1 R.b7.2 R.b8.1 R.b8.2 R.b3.1 R.b3.2 R.b4.1 R.b4.2; rw [R.hz] at this; exact this
theorem Ch.Rn.step0 (R : Ch.Rn D k j h1 h2 g1 g2 x y v1 v2 z) (hc : Ak.chkS D 0 = 0) (hl : D.length = 2) (A : Option Addr) (ca : Nat) (l : List CkR) (Q : Option Addr) (cq : Nat) (v : World) (hi : IsCs v A l) (hd : l.map Ak.dat = D) (hq : IsQs v Q []) :
    Calls Tryz.prog 51 #[.agg #[.slice A l.length ca, .slice Q ([] : List Qr).length cq, .int .i64 k, .int .i64 0, .int .i64 0, .int .i64 1, .bool false]] v (StQ D [⟨k, 2, 0, 1, h1, h2, x, y⟩] k 1 x y false v) := by
  have hk : k < D.length := by have := R.kj; omega
  have ha : Ak.ansS D ⟨(k : Int), 2, 0, 1, h1, h2, 0, 0⟩ = (x, y, 0) := by
    rw [Ak.ansS_at rfl hk, if_neg (by decide), if_pos rfl, R.hm]
  refine following0 A l.length ca Q ([] : List Qr).length cq k 0 1 false D [⟨k, 2, 0, 1, h1, h2, x, y⟩] k 1 x y false v (fun u hu => ?_); have := afterCut_good A ca l Q [] cq k 0 0 1 false h1 h2 ⟨k, 2, 0, 1, h1, h2, x, y⟩ u (hi.keep hu) (hq.keep hu); rw [hd] at this; refine this hc (by rw [← hd, List.length_map] at hk; exact hk) R.hh R.b1 R.b2 ?_ ?_
  · rw [Ak.putE_at (n := ([] : List Qr).length) hc ha]
    rfl
  · unfold Ak.told
    rw [ha]
theorem Ch.Rn.step1 (R : Ch.Rn D k j h1 h2 g1 g2 x y v1 v2 z) (hc : Ak.chkS D 0 = 0) (hl : D.length = 2) (q : Qr) (A : Option Addr) (ca : Nat) (l : List CkR) (Q : Option Addr) (cq : Nat) (v : World) (hi : IsCs v A l) (hd : l.map Ak.dat = D) (hq : IsQs v Q [q]) :
    Calls Tryz.prog 51 #[.agg #[.slice A l.length ca, .slice Q [q].length cq, .int .i64 k, .int .i64 1, .int .i64 x, .int .i64 y, .bool false]] v (StQ D [q, ⟨j, 1, 0, 1, x, y, v1, v2⟩] k 2 x y (decide (0 ≤ z)) v) := by
  have hj : j < D.length := by have := R.kj; omega
  have hc1 : Ak.chkS D [q].length = 0 := Ch.chkS_up hc (by simp)
  have ha : Ak.ansS D ⟨(j : Int), 1, 0, 1, x, y, 0, 0⟩ = (v1, v2, 0) := by
    rw [Ak.ansS_at rfl hj, if_pos rfl, R.hv]
  refine following1 A l.length ca Q [q].length cq k x y false D [q, ⟨j, 1, 0, 1, x, y, v1, v2⟩] k 2 x y (decide (0 ≤ z)) v (fun u hu => ?_); have := afterChoice_good A ca l Q [q] cq k 1 x y false j g1 g2 z ⟨j, 1, 0, 1, x, y, v1, v2⟩ u (hi.keep hu) (hq.keep hu); rw [hd] at this; refine this hc1 R.kj (by rw [← hd, List.length_map] at hj; exact hj) R.b5 R.b6 R.hg ?_ ?_ R.cmp
  · rw [Ak.putE_at hc1 ha]
    rfl
  · unfold Ak.told
    rw [ha]
/-- The states, one after the other. -/
theorem Ch.Rn.reach (R : Ch.Rn D k j h1 h2 g1 g2 x y v1 v2 z) (hc : Ak.chkS D 0 = 0) (hl : D.length = 2) (s : Nat) (hs : s ≤ 2) (A : Option Addr) (ca : Nat) (cs : List CkR) (w : World) (h : IsCs w A cs) (hD : cs.map Ak.dat = D) :
    Calls Tryz.prog 26 #[.slice A cs.length ca, .int .i64 k, .int .i64 (s : Nat)] w (StR D (Ch.pick [] [⟨k, 2, 0, 1, h1, h2, x, y⟩] [⟨k, 2, 0, 1, h1, h2, x, y⟩, ⟨j, 1, 0, 1, x, y, v1, v2⟩] s) k (s : Nat) (Ch.pick 0 x x s) (Ch.pick 1 y y s) (Ch.pick false false (decide (0 ≤ z)) s) w) := by
  refine reached_good A ca cs k s D (Ch.pick [] [⟨k, 2, 0, 1, h1, h2, x, y⟩] [⟨k, 2, 0, 1, h1, h2, x, y⟩, ⟨j, 1, 0, 1, x, y, v1, v2⟩]) (Ch.pick 0 x x) (Ch.pick 1 y y) (Ch.pick false false (decide (0 ≤ z))) w h hD hc (by rw [← hD, List.length_map] at hl; exact hl) (by have := R.kj; omega) ⟨rfl, rfl, rfl, rfl⟩ (fun i hi A ca l Q cq v h1 h2 h3 => ?_)
  rcases (show i = 0 ∨ i = 1 by omega) with rfl | rfl
  · exact R.step0 hc hl A ca l Q cq v h1 h2 h3
  · exact R.step1 hc hl _ A ca l Q cq v h1 h2 h3
end
section
variable {D : List CkD} {h1 h2 g1 g2 x y v1 v2 z : Int}
theorem cat0_len {l : List CkR} {len : Int} (hd : l.map Ak.dat = D) (hl : D.length = 2) (hn : (Ak.dAt D 0).1 = len) : (Ak.cat l 0).len = len := by
  have h2 : 0 < l.length := by rw [← List.length_map (f := Ak.dat), hd]; omega
  rw [← hn, ← hd, Ak.dAt_map l h2]
  rfl
/-- The agent 0 cuts. -/
theorem Ch.Rn.run0 (R : Ch.Rn D 0 1 h1 h2 g1 g2 x y v1 v2 z) (hc : Ak.chkS D 0 = 0) (hl : D.length = 2) (len : Int) (hn : (Ak.dAt D 0).1 = len) (A : Option Addr) (ca : Nat) (cs : List CkR) (w : World) (h : IsCs w A cs) (hD : cs.map Ak.dat = D) :
    Calls Tryz.prog 8 #[.slice A cs.length ca, .int .i64 0] w (RunQ [⟨0, 2, 0, 1, h1, h2, x, y⟩, ⟨1, 1, 0, 1, x, y, v1, v2⟩] (if 0 ≤ z then x else 0) (if 0 ≤ z then y else 1) (if 0 ≤ z then len else x) (if 0 ≤ z then 1 else y) (if 0 ≤ z then 0 else x) (if 0 ≤ z then 1 else y) (if 0 ≤ z then x else len) (if 0 ≤ z then y else 1) w) := by
  refine run_of A ca cs.length 0 x y (decide (0 ≤ z)) D _ _ _ _ _ _ _ _ _ w (fun v hv => R.reach hc hl 2 (Nat.le_refl _) A ca cs v (h.keep hv) hD) (fun A ca l Q n cq v hi hd => ?_)
  have hl2 : l.length = 2 := by rw [← List.length_map (f := Ak.dat), hd]; exact hl
  have hlen := cat0_len hd hl hn
  by_cases hz : 0 ≤ z
  · simp only [if_pos hz, decide_eq_true hz]
    exact divided0t A ca l Q n cq 2 x y len v hi hl2 hlen
  · simp only [if_neg hz, decide_eq_false hz]
    exact divided0f A ca l Q n cq 2 x y len v hi hl2 hlen
/-- The agent 1 cuts. -/
theorem Ch.Rn.run1 (R : Ch.Rn D 1 0 h1 h2 g1 g2 x y v1 v2 z) (hc : Ak.chkS D 0 = 0) (hl : D.length = 2) (len : Int) (hn : (Ak.dAt D 0).1 = len) (A : Option Addr) (ca : Nat) (cs : List CkR) (w : World) (h : IsCs w A cs) (hD : cs.map Ak.dat = D) :
    Calls Tryz.prog 8 #[.slice A cs.length ca, .int .i64 1] w (RunQ [⟨1, 2, 0, 1, h1, h2, x, y⟩, ⟨0, 1, 0, 1, x, y, v1, v2⟩] (if 0 ≤ z then 0 else x) (if 0 ≤ z then 1 else y) (if 0 ≤ z then x else len) (if 0 ≤ z then y else 1) (if 0 ≤ z then x else 0) (if 0 ≤ z then y else 1) (if 0 ≤ z then len else x) (if 0 ≤ z then 1 else y) w) := by
  refine run_of A ca cs.length 1 x y (decide (0 ≤ z)) D _ _ _ _ _ _ _ _ _ w (fun v hv => R.reach hc hl 2 (Nat.le_refl _) A ca cs v (h.keep hv) hD) (fun A ca l Q n cq v hi hd => ?_)
  have hl2 : l.length = 2 := by rw [← List.length_map (f := Ak.dat), hd]; exact hl
  have hlen := cat0_len hd hl hn
  by_cases hz : 0 ≤ z
  · simp only [if_pos hz, decide_eq_true hz]
    exact divided1t A ca l Q n cq 2 x y len v hi hl2 hlen
  · simp only [if_neg hz, decide_eq_false hz]
    exact divided1f A ca l Q n cq 2 x y len v hi hl2 hlen
end
end Go.Proofs.YtpcdggkajindbaaGreat
namespace Go.Proofs.YtpcdggkajindbaaGreat
open Go.RowKit
theorem BK.call {w v : World} {p : Nat} {l : List Value} (h : BK w p l) (hb : Below w.heap.size w v) : BK v p l := h.keep hb
theorem BK.size {w : World} {p : Nat} {l : List Value} (h : BK w p l) : p < w.heap.size := h.lt
theorem al7_0 : Ch.Rn [(2, [0, 2], [1]), (2, [0, 1, 2], [3, 1])] 0 1 1 1 2 1 1 1 3 1 1 := ⟨by decide, by decide +kernel, by decide +kernel, by decide +kernel, by decide +kernel, by decide +kernel, ⟨by decide, by decide⟩, ⟨by decide, by decide⟩, ⟨by decide, by decide⟩, ⟨by decide, by decide⟩, ⟨by decide, by decide⟩, ⟨by decide, by decide⟩, ⟨by decide, by decide⟩, ⟨by decide, by decide⟩⟩
theorem al7_1 : Ch.Rn [(2, [0, 2], [1]), (2, [0, 1, 2], [3, 1])] 1 0 2 1 1 1 2 3 2 3 (-1) := ⟨by decide, by decide +kernel, by decide +kernel, by decide +kernel, by decide +kernel, by decide +kernel, ⟨by decide, by decide⟩, ⟨by decide, by decide⟩, ⟨by decide, by decide⟩, ⟨by decide, by decide⟩, ⟨by decide, by decide⟩, ⟨by decide, by decide⟩, ⟨by decide, by decide⟩, ⟨by decide, by decide⟩⟩
theorem al7_chk : Ak.chkS [(2, [0, 2], [1]), (2, [0, 1, 2], [3, 1])] 0 = 0 := by decide +kernel
theorem al7_run0 (P : Nat) (l : List CkR) (w : World) (hl : l.length = 2) (hd : l.map Ak.dat = [(2, [0, 2], [1]), (2, [0, 1, 2], [3, 1])]) (h : IsCs w (some ⟨P, 0, none⟩) l) : Calls Tryz.prog 8 #[.slice (some ⟨P, 0, none⟩) 2 2, .int .i64 0] w (RunQ [⟨0, 2, 0, 1, 1, 1, 1, 1⟩, ⟨1, 1, 0, 1, 1, 1, 3, 1⟩] 1 1 2 1 0 1 1 1 w) := by
  have := al7_0.run0 al7_chk rfl 2 rfl (some ⟨P, 0, none⟩) 2 l w h hd; rw [hl] at this; exact this
theorem al7_run1 (P : Nat) (l : List CkR) (w : World) (hl : l.length = 2) (hd : l.map Ak.dat = [(2, [0, 2], [1]), (2, [0, 1, 2], [3, 1])]) (h : IsCs w (some ⟨P, 0, none⟩) l) : Calls Tryz.prog 8 #[.slice (some ⟨P, 0, none⟩) 2 2, .int .i64 1] w (RunQ [⟨1, 2, 0, 1, 2, 1, 2, 3⟩, ⟨0, 1, 0, 1, 2, 3, 2, 3⟩] 2 3 2 1 0 1 2 3 w) := by
  have := al7_1.run1 al7_chk rfl 2 rfl (some ⟨P, 0, none⟩) 2 l w h hd; rw [hl] at this; exact this
set_option linter.unusedSimpArgs false in
set_option maxHeartbeats 8000000 in
set_option maxRecDepth 100000 in
theorem piece7_any (a b c d : Int) (w : World) : Calls Tryz.prog 25 #[.agg #[.int .i64 a, .int .i64 b], .agg #[.int .i64 c, .int .i64 d]] w fun e w' => ∃ g, e = .returned (.slice (some ⟨g, 0, none⟩) 1 1) ∧ Below w.heap.size w w' ∧ BK w' g [.int .i64 a, .int .i64 b, .int .i64 c, .int .i64 d] := by
  go_enter Tryz.func25, Tryz.ntmps25
  go_upto_region 1 with fail
  refine at_worldQ (fun v => Below w.heap.size w v ∧ BK v (w.heap.size) [.int .i64 a, .int .i64 b] ∧ BK v (w.heap.size + 1) [.int .i64 c, .int .i64 d] ∧ v.heap.size = w.heap.size + 2) ⟨(below_al (below_al (Below.refl _ _) _) _), (by have b := ((BK.new w [.int .i64 a, .int .i64 b] 44).al (.cells #[.int .i64 c, .int .i64 d] 44)); simpa only [World.size_alloc] using b), (by have b := (BK.new (w.alloc (.cells #[.int .i64 a, .int .i64 b] 44)) [.int .i64 c, .int .i64 d] 44); simpa only [World.size_alloc] using b), by simp only [World.size_alloc]⟩ (fun V hS => ?_); obtain ⟨hbb, B0, B1, hVs⟩ := hS; have p0 := B0.c 0 rfl; have p1 := B0.c 1 rfl; have q0 := B1.c 0 rfl; have q1 := B1.c 1 rfl; clear hVs; (go_wp2_with fail)
  go_ret
  exact ⟨_, rfl, below_al hbb _, BK.new _ _ _⟩
set_option linter.unusedSimpArgs false in
set_option maxHeartbeats 8000000 in
set_option maxRecDepth 100000 in
theorem alive7_any (w : World) : Calls Tryz.prog 7 #[] w fun e w' => e = .returned (.bool true) ∧ Below w.heap.size w w' := by
  go_enter Tryz.func7, Tryz.ntmps7
  (go_wp2_with fail); refine (rOf_any _ _).mono ?_; rintro e w1 ⟨rfl, hb⟩; have hbb := hb; clear hb; (go_wp2_with fail); refine (rOf_any _ _).mono ?_; rintro e w2 ⟨rfl, hb⟩; replace hbb := hbb.trans (hb.mono hbb.size); clear hb; (go_wp2_with fail); refine (rOf_any _ _).mono ?_; rintro e w3 ⟨rfl, hb⟩; replace hbb := hbb.trans (hb.mono hbb.size); clear hb
  go_upto_region 2 with fail
  refine at_worldQ (fun v => Below w.heap.size w v ∧ w.heap.size ≤ v.heap.size ∧ BK v (w3.heap.size) [.int .i64 0, .int .i64 1] ∧ BK v (w3.heap.size + 1) [.int .i64 1, .int .i64 1] ∧ BK v (w3.heap.size + 1 + 1) [.int .i64 2, .int .i64 1] ∧ BK v (w3.heap.size + 1 + 1 + 1) [.int .i64 2, .int .i64 3]) ⟨(below_al (below_al (below_al (below_al hbb _) _) _) _), Below.size (B := w.heap.size) (w := w) (below_al (below_al (below_al (below_al hbb _) _) _) _), (by have b := ((((BK.new w3 [.int .i64 0, .int .i64 1] 44).al (.cells #[.int .i64 1, .int .i64 1] 44)).al (.cells #[.int .i64 2, .int .i64 1] 44)).al (.cells #[.int .i64 2, .int .i64 3] 44)); simpa only [World.size_alloc] using b), (by have b := (((BK.new (w3.alloc (.cells #[.int .i64 0, .int .i64 1] 44)) [.int .i64 1, .int .i64 1] 44).al (.cells #[.int .i64 2, .int .i64 1] 44)).al (.cells #[.int .i64 2, .int .i64 3] 44)); simpa only [World.size_alloc] using b), (by have b := ((BK.new ((w3.alloc (.cells #[.int .i64 0, .int .i64 1] 44)).alloc (.cells #[.int .i64 1, .int .i64 1] 44)) [.int .i64 2, .int .i64 1] 44).al (.cells #[.int .i64 2, .int .i64 3] 44)); simpa only [World.size_alloc] using b), (by have b := (BK.new (((w3.alloc (.cells #[.int .i64 0, .int .i64 1] 44)).alloc (.cells #[.int .i64 1, .int .i64 1] 44)).alloc (.cells #[.int .i64 2, .int .i64 1] 44)) [.int .i64 2, .int .i64 3] 44); simpa only [World.size_alloc] using b)⟩ (fun V2 hS => ?_); clear hbb; obtain ⟨hbb, hBV, BZ, BO, BA, BT⟩ := hS
  generalize w3.heap.size + 1 + 1 + 1 = p3 at *
  generalize w3.heap.size + 1 + 1 = p2 at *
  generalize w3.heap.size + 1 = p1 at *
  generalize w3.heap.size = p0 at *
  (go_wp2_with fail); refine (two7_any _).mono ?_; rintro e wta ⟨Pa, la, rfl, hla, hda, hcra⟩; have RN := Lib.hid (al7_run0 Pa la wta hla hda (hcra.isCs hla.symm (by unfold maxLen; omega))); have hb := hcra.bb; clear hcra hda hla; replace BZ := BZ.keep hb; replace BO := BO.keep hb; replace BA := BA.keep hb; replace BT := BT.keep hb; replace hbb := keepB hbb hb; clear hb; (go_wp2_with fail); refine RN.out.mono ?_; rintro e wra ⟨Da, ga, ka, Qa, na, cqa, rfl, hb, hna, hqq, hdva⟩; have hn2 : na = 2 := hna; clear hna RN hqq; subst hn2; replace BZ := BZ.keep hb; replace BO := BO.keep hb; replace BA := BA.keep hb; replace BT := BT.keep hb; replace hbb := keepB hbb hb; clear hb
  go_upto_region 3 with fail
  refine at_worldQ (fun v => Below w.heap.size w v ∧ w.heap.size ≤ v.heap.size ∧ BK v p0 [.int .i64 0, .int .i64 1] ∧ BK v p1 [.int .i64 1, .int .i64 1] ∧ BK v p2 [.int .i64 2, .int .i64 1] ∧ BK v p3 [.int .i64 2, .int .i64 3] ∧ BK v wra.heap.size [.slice (some ⟨Da, 0, none⟩) 2 2] ∧ DivB 0 Da ga ka 1 1 2 1 0 1 1 1 v) ⟨(below_al hbb _), Below.size (B := w.heap.size) (w := w) (below_al hbb _), BZ.al _, BO.al _, BA.al _, BT.al _, BK.new _ _ _, (hdva.mono (Nat.zero_le _)).al _⟩ (fun V3 hS => ?_); clear hbb BZ BO BA BT hBV; obtain ⟨hbb, hBV, BZ, BO, BA, BT, Ba, Ea⟩ := hS; clear hdva
  generalize wra.heap.size = ba at *
  (go_wp2_with fail); refine (two7_any _).mono ?_; rintro e wtb ⟨Pb, lb, rfl, hlb, hdb, hcrb⟩; have RN := Lib.hid (al7_run1 Pb lb wtb hlb hdb (hcrb.isCs hlb.symm (by unfold maxLen; omega))); have hb := hcrb.bb; clear hcrb hdb hlb; replace BZ := BZ.keep hb; replace BO := BO.keep hb; replace BA := BA.keep hb; replace BT := BT.keep hb; replace Ba := Ba.keep hb; replace Ea := Ea.call hb; replace hbb := keepB hbb hb; clear hb; (go_wp2_with fail); refine RN.out.mono ?_; rintro e wrb ⟨Db, gb, kb, Qb, nb, cqb, rfl, hb, hnb, hqq, hdvb⟩; have hn2 : nb = 2 := hnb; clear hnb RN hqq; subst hn2; replace BZ := BZ.keep hb; replace BO := BO.keep hb; replace BA := BA.keep hb; replace BT := BT.keep hb; replace Ba := Ba.keep hb; replace Ea := Ea.call hb; replace hbb := keepB hbb hb; clear hb
  go_upto_region 4 with fail
  refine at_worldQ (fun v => Below w.heap.size w v ∧ w.heap.size ≤ v.heap.size ∧ BK v p0 [.int .i64 0, .int .i64 1] ∧ BK v p1 [.int .i64 1, .int .i64 1] ∧ BK v p2 [.int .i64 2, .int .i64 1] ∧ BK v p3 [.int .i64 2, .int .i64 3] ∧ BK v ba [.slice (some ⟨Da, 0, none⟩) 2 2] ∧ DivB 0 Da ga ka 1 1 2 1 0 1 1 1 v ∧ BK v wrb.heap.size [.slice (some ⟨Db, 0, none⟩) 2 2] ∧ DivB 0 Db gb kb 2 3 2 1 0 1 2 3 v) ⟨(below_al hbb _), Below.size (B := w.heap.size) (w := w) (below_al hbb _), BZ.al _, BO.al _, BA.al _, BT.al _, Ba.al _, Ea.al _, BK.new _ _ _, (hdvb.mono (Nat.zero_le _)).al _⟩ (fun V4 hS => ?_); clear hbb BZ BO BA BT Ba Ea hBV; obtain ⟨hbb, hBV, BZ, BO, BA, BT, Ba, Ea, Bb, Eb⟩ := hS; clear hdvb
  generalize wrb.heap.size = bb at *
  have z0 := BZ.c 0 rfl; have z1 := BZ.c 1 rfl; have o0 := BO.c 0 rfl; have o1 := BO.c 1 rfl; have a0 := BA.c 0 rfl; have a1 := BA.c 1 rfl; have t0 := BT.c 0 rfl; have t1 := BT.c 1 rfl; have da := Ba.c 0 rfl; have db := Bb.c 0 rfl; refine wp_region_noPanic ?_; refine wp_region_held_drew (S := (GB (fun _ => False) V4)) (by kernel_rfl) ((GB.refl _ _).drew) (fun hHeld => ?_); refine at_anyH (fun v => GB (fun _ => False) V4 v) hHeld (fun wv0 hNew => ?_); clear hHeld; have hHeld := hNew; clear hNew; refine tkn 0 ?vv1 rfl ?hyv1 hHeld ?restv1
  case hyv1 => (intro w hSw; go_simp <;> with_reducible rfl)
  (try simp only [PPz]); refine tkn 1 ?vv2 rfl ?hyv2 hHeld ?restv2
  case hyv2 => (intro w hSw; go_simp <;> with_reducible rfl)
  (try simp only [PPz]); refine tkn 2 ?vv3 rfl ?hyv3 hHeld ?restv3
  case hyv3 => (intro w hSw; go_simp <;> with_reducible rfl)
  (try simp only [PPz]); refine tkn 3 ?vv4 rfl ?hyv4 hHeld ?restv4
  case hyv4 => (intro w hSw; have kz0 := hSw.cell (fun h => h) z0; have kz1 := hSw.cell (fun h => h) z1; have ko0 := hSw.cell (fun h => h) o0; have ko1 := hSw.cell (fun h => h) o1; have ka0 := hSw.cell (fun h => h) a0; have ka1 := hSw.cell (fun h => h) a1; have kt0 := hSw.cell (fun h => h) t0; have kt1 := hSw.cell (fun h => h) t1; have kda := hSw.cell (fun h => h) da; have kdb := hSw.cell (fun h => h) db; go_simp <;> with_reducible rfl)
  (try simp only [PPz]); refine tkn 4 ?vv5 rfl ?hyv5 hHeld ?restv5
  case hyv5 => (intro w hSw; have kz0 := hSw.cell (fun h => h) z0; have kz1 := hSw.cell (fun h => h) z1; have ko0 := hSw.cell (fun h => h) o0; have ko1 := hSw.cell (fun h => h) o1; have ka0 := hSw.cell (fun h => h) a0; have ka1 := hSw.cell (fun h => h) a1; have kt0 := hSw.cell (fun h => h) t0; have kt1 := hSw.cell (fun h => h) t1; have kda := hSw.cell (fun h => h) da; have kdb := hSw.cell (fun h => h) db; go_simp <;> with_reducible rfl)
  (try simp only [PPz]); refine tkn 5 ?vv6 rfl ?hyv6 hHeld ?restv6
  case hyv6 => (intro w hSw; have kz0 := hSw.cell (fun h => h) z0; have kz1 := hSw.cell (fun h => h) z1; have ko0 := hSw.cell (fun h => h) o0; have ko1 := hSw.cell (fun h => h) o1; have ka0 := hSw.cell (fun h => h) a0; have ka1 := hSw.cell (fun h => h) a1; have kt0 := hSw.cell (fun h => h) t0; have kt1 := hSw.cell (fun h => h) t1; have kda := hSw.cell (fun h => h) da; have kdb := hSw.cell (fun h => h) db; go_simp <;> with_reducible rfl)
  (try simp only [PPz]); refine tkn 7 ?vv7 rfl ?hyv7 hHeld ?restv7
  case hyv7 => (intro w hSw; have kz0 := hSw.cell (fun h => h) z0; have kz1 := hSw.cell (fun h => h) z1; have ko0 := hSw.cell (fun h => h) o0; have ko1 := hSw.cell (fun h => h) o1; have ka0 := hSw.cell (fun h => h) a0; have ka1 := hSw.cell (fun h => h) a1; have kt0 := hSw.cell (fun h => h) t0; have kt1 := hSw.cell (fun h => h) t1; have kda := hSw.cell (fun h => h) da; have kdb := hSw.cell (fun h => h) db; go_simp <;> with_reducible rfl)
  (try simp only [PPz]); refine tkn 8 ?vv8 rfl ?hyv8 hHeld ?restv8
  case hyv8 => (intro w hSw; have kz0 := hSw.cell (fun h => h) z0; have kz1 := hSw.cell (fun h => h) z1; have ko0 := hSw.cell (fun h => h) o0; have ko1 := hSw.cell (fun h => h) o1; have ka0 := hSw.cell (fun h => h) a0; have ka1 := hSw.cell (fun h => h) a1; have kt0 := hSw.cell (fun h => h) t0; have kt1 := hSw.cell (fun h => h) t1; have kda := hSw.cell (fun h => h) da; have kdb := hSw.cell (fun h => h) db; go_simp <;> with_reducible rfl)
  (try simp only [PPz]); refine rdy1 6 rfl (fun K hK => ?_); go_simp; refine (piece7_any 1 1 2 1 _).mono ?_; rintro e wv9 ⟨q6, rfl, hb3, H6⟩; (go_wp2_with fail); refine hK.out _ _ (hHeld.below hb3) (fun hNew => ?_); clear hb3; clear hHeld hK K; have hHeld := hNew; clear hNew; (try simp only [PPz]); refine rdy1 9 rfl (fun K hK => ?_); go_simp; refine (piece7_any 0 1 1 1 _).mono ?_; rintro e wv10 ⟨q9, rfl, hb3, H9⟩; (go_wp2_with fail); refine hK.out _ _ (hHeld.below hb3) (fun hNew => ?_); replace H6 := H6.call hb3; clear hb3; clear hHeld hK K; have hHeld := hNew; clear hNew; (try simp only [PPz]); refine rdy1 10 rfl (fun K hK => ?_); go_simp; refine hK.out _ _ (hHeld.al _) (fun hNew => ?_); have hX : V4.heap.size ≤ wv10.heap.size := hHeld.size; clear hHeld hK K; have hHeld := hNew; clear hNew; (try simp only [PPz]); have gXH6 := H6.size; have gXH9 := H9.size; refine at_anyH (fun v => GB (fun _ => False) V4 v ∧ BK v (wv10.heap.size) [.slice (some ⟨q6, 0, none⟩) 1 1, .slice (some ⟨q9, 0, none⟩) 1 1] ∧ BK v q6 [.int .i64 1, .int .i64 1, .int .i64 2, .int .i64 1] ∧ BK v q9 [.int .i64 0, .int .i64 1, .int .i64 1, .int .i64 1]) ⟨hHeld, BK.new _ _ _, H6.al _, H9.al _⟩ (fun wv11 hS => ?_); clear hHeld H6 H9; obtain ⟨hHeld, BX, H6, H9⟩ := hS; refine tkn 11 ?vv12 rfl ?hyv12 hHeld ?restv12
  case hyv12 => (intro w hSw; go_simp <;> with_reducible rfl)
  (try simp only [PPz]); refine rdy1 12 rfl (fun K hK => ?_); go_simp; refine (sameDiv_eq Da (wv10.heap.size) 0 0 ga ka q6 q9 _ _ _ _ _ _ _ _ _ (Ea.call (hHeld.toBelow (Below.refl _ _) (fun k hk => hk.elim) (Nat.le_refl _))) ⟨Nat.zero_le _, Nat.zero_le _, Nat.zero_le _, BX, H6, H9⟩).mono ?_; rintro e wv13 ⟨rfl, hb3⟩; (go_wp2_with fail); refine hK.out _ _ (hHeld.below hb3) (fun hNew => ?_); replace BX := BX.keep hb3; replace H6 := H6.call hb3; replace H9 := H9.call hb3; clear hb3; clear hHeld hK K; have hHeld := hNew; clear hNew; (try simp only [PPz]); refine tkn 13 ?vv14 rfl ?hyv14 hHeld ?restv14
  case hyv14 => (intro w hSw; go_simp <;> with_reducible rfl)
  (try simp only [PPz]); refine tkn 14 ?vv15 rfl ?hyv15 hHeld ?restv15
  case hyv15 => (intro w hSw; go_simp <;> with_reducible rfl)
  (try simp only [PPz]); refine tkn 15 ?vv16 rfl ?hyv16 hHeld ?restv16
  case hyv16 => (intro w hSw; go_simp <;> with_reducible rfl)
  (try simp only [PPz]); refine tkn 16 ?vv17 rfl ?hyv17 hHeld ?restv17
  case hyv17 => (intro w hSw; go_simp <;> with_reducible rfl)
  (try simp only [PPz]); refine tkn 17 ?vv18 rfl ?hyv18 hHeld ?restv18
  case hyv18 => (intro w hSw; go_simp <;> with_reducible rfl)
  (try simp only [PPz]); refine tkn 18 ?vv19 rfl ?hyv19 hHeld ?restv19
  case hyv19 => (intro w hSw; go_simp <;> with_reducible rfl)
  (try simp only [PPz]); refine tkn 19 ?vv20 rfl ?hyv20 hHeld ?restv20
  case hyv20 => (intro w hSw; go_simp <;> with_reducible rfl)
  (try simp only [PPz]); refine tkn 20 ?vv21 rfl ?hyv21 hHeld ?restv21
  case hyv21 => (intro w hSw; go_simp <;> with_reducible rfl)
  (try simp only [PPz]); refine tkn 21 ?vv22 rfl ?hyv22 hHeld ?restv22
  case hyv22 => (intro w hSw; go_simp <;> with_reducible rfl)
  (try simp only [PPz]); refine tkn 22 ?vv23 rfl ?hyv23 hHeld ?restv23
  case hyv23 => (intro w hSw; go_simp <;> with_reducible rfl)
  (try simp only [PPz]); refine tkn 23 ?vv24 rfl ?hyv24 hHeld ?restv24
  case hyv24 => (intro w hSw; go_simp <;> with_reducible rfl)
  (try simp only [PPz]); refine tkn 24 ?vv25 rfl ?hyv25 hHeld ?restv25
  case hyv25 => (intro w hSw; have kz0 := hSw.cell (fun h => h) z0; have kz1 := hSw.cell (fun h => h) z1; have ko0 := hSw.cell (fun h => h) o0; have ko1 := hSw.cell (fun h => h) o1; have ka0 := hSw.cell (fun h => h) a0; have ka1 := hSw.cell (fun h => h) a1; have kt0 := hSw.cell (fun h => h) t0; have kt1 := hSw.cell (fun h => h) t1; have kda := hSw.cell (fun h => h) da; have kdb := hSw.cell (fun h => h) db; go_simp <;> with_reducible rfl)
  (try simp only [PPz]); refine tkn 25 ?vv26 rfl ?hyv26 hHeld ?restv26
  case hyv26 => (intro w hSw; have kz0 := hSw.cell (fun h => h) z0; have kz1 := hSw.cell (fun h => h) z1; have ko0 := hSw.cell (fun h => h) o0; have ko1 := hSw.cell (fun h => h) o1; have ka0 := hSw.cell (fun h => h) a0; have ka1 := hSw.cell (fun h => h) a1; have kt0 := hSw.cell (fun h => h) t0; have kt1 := hSw.cell (fun h => h) t1; have kda := hSw.cell (fun h => h) da; have kdb := hSw.cell (fun h => h) db; go_simp <;> with_reducible rfl)
  (try simp only [PPz]); refine tkn 26 ?vv27 rfl ?hyv27 hHeld ?restv27
  case hyv27 => (intro w hSw; have kz0 := hSw.cell (fun h => h) z0; have kz1 := hSw.cell (fun h => h) z1; have ko0 := hSw.cell (fun h => h) o0; have ko1 := hSw.cell (fun h => h) o1; have ka0 := hSw.cell (fun h => h) a0; have ka1 := hSw.cell (fun h => h) a1; have kt0 := hSw.cell (fun h => h) t0; have kt1 := hSw.cell (fun h => h) t1; have kda := hSw.cell (fun h => h) da; have kdb := hSw.cell (fun h => h) db; go_simp <;> with_reducible rfl)
  (try simp only [PPz]); refine tkn 28 ?vv28 rfl ?hyv28 hHeld ?restv28
  case hyv28 => (intro w hSw; have kz0 := hSw.cell (fun h => h) z0; have kz1 := hSw.cell (fun h => h) z1; have ko0 := hSw.cell (fun h => h) o0; have ko1 := hSw.cell (fun h => h) o1; have ka0 := hSw.cell (fun h => h) a0; have ka1 := hSw.cell (fun h => h) a1; have kt0 := hSw.cell (fun h => h) t0; have kt1 := hSw.cell (fun h => h) t1; have kda := hSw.cell (fun h => h) da; have kdb := hSw.cell (fun h => h) db; go_simp <;> with_reducible rfl)
  (try simp only [PPz]); refine tkn 29 ?vv29 rfl ?hyv29 hHeld ?restv29
  case hyv29 => (intro w hSw; have kz0 := hSw.cell (fun h => h) z0; have kz1 := hSw.cell (fun h => h) z1; have ko0 := hSw.cell (fun h => h) o0; have ko1 := hSw.cell (fun h => h) o1; have ka0 := hSw.cell (fun h => h) a0; have ka1 := hSw.cell (fun h => h) a1; have kt0 := hSw.cell (fun h => h) t0; have kt1 := hSw.cell (fun h => h) t1; have kda := hSw.cell (fun h => h) da; have kdb := hSw.cell (fun h => h) db; go_simp <;> with_reducible rfl)
  (try simp only [PPz]); refine rdy1 27 rfl (fun K hK => ?_); go_simp; refine (piece7_any 2 3 2 1 _).mono ?_; rintro e wv30 ⟨q27, rfl, hb3, H27⟩; (go_wp2_with fail); refine hK.out _ _ (hHeld.below hb3) (fun hNew => ?_); have cX := BX.lt; replace BX := BX.keep hb3; replace H6 := H6.call hb3; replace H9 := H9.call hb3; clear hb3; clear hHeld hK K; have hHeld := hNew; clear hNew; (try simp only [PPz]); refine rdy1 30 rfl (fun K hK => ?_); go_simp; refine (piece7_any 0 1 2 3 _).mono ?_; rintro e wv31 ⟨q30, rfl, hb3, H30⟩; (go_wp2_with fail); refine hK.out _ _ (hHeld.below hb3) (fun hNew => ?_); have cX := BX.lt; replace BX := BX.keep hb3; replace H6 := H6.call hb3; replace H9 := H9.call hb3; replace H27 := H27.call hb3; clear hb3; clear hHeld hK K; have hHeld := hNew; clear hNew; (try simp only [PPz]); refine rdy1 31 rfl (fun K hK => ?_); go_simp; refine hK.out _ _ (hHeld.al _) (fun hNew => ?_); have hY : V4.heap.size ≤ wv31.heap.size := hHeld.size; have dXY := BX.lt; clear hHeld hK K; have hHeld := hNew; clear hNew; (try simp only [PPz]); have gYH6 := H6.size; have gYH9 := H9.size; have gYH27 := H27.size; have gYH30 := H30.size; refine at_anyH (fun v => GB (fun _ => False) V4 v ∧ BK v (wv10.heap.size) [.slice (some ⟨q6, 0, none⟩) 1 1, .slice (some ⟨q9, 0, none⟩) 1 1] ∧ BK v (wv31.heap.size) [.slice (some ⟨q27, 0, none⟩) 1 1, .slice (some ⟨q30, 0, none⟩) 1 1] ∧ BK v q6 [.int .i64 1, .int .i64 1, .int .i64 2, .int .i64 1] ∧ BK v q9 [.int .i64 0, .int .i64 1, .int .i64 1, .int .i64 1] ∧ BK v q27 [.int .i64 2, .int .i64 3, .int .i64 2, .int .i64 1] ∧ BK v q30 [.int .i64 0, .int .i64 1, .int .i64 2, .int .i64 3]) ⟨hHeld, BX.al _, BK.new _ _ _, H6.al _, H9.al _, H27.al _, H30.al _⟩ (fun wv32 hS => ?_); clear hHeld BX H6 H9 H27 H30; obtain ⟨hHeld, BX, BY, H6, H9, H27, H30⟩ := hS; refine tkn 32 ?vv33 rfl ?hyv33 hHeld ?restv33
  case hyv33 => (intro w hSw; go_simp <;> with_reducible rfl)
  (try simp only [PPz]); refine rdy1 33 rfl (fun K hK => ?_); go_simp; refine (sameDiv_eq Db (wv31.heap.size) 0 0 gb kb q27 q30 _ _ _ _ _ _ _ _ _ (Eb.call (hHeld.toBelow (Below.refl _ _) (fun k hk => hk.elim) (Nat.le_refl _))) ⟨Nat.zero_le _, Nat.zero_le _, Nat.zero_le _, BY, H27, H30⟩).mono ?_; rintro e wv34 ⟨rfl, hb3⟩; (go_wp2_with fail); refine hK.out _ _ (hHeld.below hb3) (fun hNew => ?_); replace BX := BX.keep hb3; replace BY := BY.keep hb3; replace H6 := H6.call hb3; replace H9 := H9.call hb3; replace H27 := H27.call hb3; replace H30 := H30.call hb3; clear hb3; clear hHeld hK K; have hHeld := hNew; clear hNew; (try simp only [PPz]); refine tkn 34 ?vv35 rfl ?hyv35 hHeld ?restv35
  case hyv35 => (intro w hSw; go_simp <;> with_reducible rfl)
  (try simp only [PPz]); refine tkn 35 ?vv36 rfl ?hyv36 hHeld ?restv36
  case hyv36 => (intro w hSw; go_simp <;> with_reducible rfl)
  (try simp only [PPz]); refine wpAnyH_done (by kernel_rfl) ?_ _; refine NoPanic.normal ?_
  skip
  have hbb2 := hHeld.toBelow hbb (fun k hk => hk.elim) hBV; (go_wp2_with fail)
  go_ret
  exact ⟨rfl, hbb2⟩
end Go.Proofs.YtpcdggkajindbaaGreat
namespace Go.Proofs.YtpcdggkajindbaaGreat
open Go.RowKit
namespace Ch
/-- The error of cakes and a cutter. -/
def cakesE (D : List CkD) (K : Int) : Int := if Ak.chkS D 0 ≠ 0 then Ak.chkS D 0 else if D.length ≠ 2 ∨ K < 0 ∨ 1 < K then 2 else 0
def fitP (D : List CkD) (K : Int) : Bool := !Ak.greatCs D && decide (cakesE D K = 0)
theorem fit_of {D : List CkD} {K : Int} (h : fitP D K = true) : Ak.chkS D 0 = 0 ∧ D.length = 2 ∧ (K = 0 ∨ K = 1) := by
  unfold fitP at h
  rw [Bool.and_eq_true] at h; have h2 := of_decide_eq_true h.2
  unfold cakesE at h2
  split at h2
  · rename_i g
    exact absurd h2 g
  · rename_i g
    rw [Decidable.not_not] at g
    split at h2
    · cases h2
    · rename_i g2
      exact ⟨g, by omega, by omega⟩
end Ch
set_option linter.unusedSimpArgs false in
set_option maxHeartbeats 8000000 in
set_option maxRecDepth 100000 in
theorem cakes_any (A : Option Addr) (ca : Nat) (cs : List CkR) (K : Int) (w : World) (h : IsCs w A cs) :
    Calls Tryz.prog 22 #[.slice A cs.length ca, .int .i64 K] w fun e w' => e = .returned (.int .i64 (Ch.cakesE (cs.map Ak.dat) K)) ∧ Below w.heap.size w w' := by
  have ch := fun v (hv : Below w.heap.size w v) => rAskCheck_any A ca cs none 0 0 v (by simp) (h.keep hv)
  unfold Ch.cakesE
  rw [List.length_map]; clear h
  by_cases h1 : Ak.chkS (cs.map Ak.dat) 0 = 0
  case neg =>
    have n1 : (Ak.chkS (cs.map Ak.dat) 0 != 0) = true := by rw [bne_iff_ne]; exact h1
    rw [if_pos h1]; clear h1
    generalize Ak.chkS (cs.map Ak.dat) 0 = z at *
    have CH := Lib.hid ch; clear ch
    go_enter Tryz.func22, Tryz.ntmps22
    (go_wp2_with fail); refine (CH.out _ (Below.refl _ _)).mono ?_; rintro e w1 ⟨rfl, hb⟩; (go_wp2_with fail)
    go_ret
    exact ⟨rfl, hb⟩
  rw [h1] at ch; rw [if_neg (fun k => k h1)]; have CH := Lib.hid ch; have e0 : ((0 : Int) != 0) = false := rfl; clear ch h1
  by_cases hl : cs.length = 2
  case neg =>
    rw [if_pos (.inl hl)]
    have e2 : (((cs.length : Nat) : Int) != 2) = true := by rw [bne_iff_ne]; omega
    clear hl
    go_enter Tryz.func22, Tryz.ntmps22
    (go_wp2_with fail); refine (CH.out _ (Below.refl _ _)).mono ?_; rintro e w1 ⟨rfl, hb⟩; (go_wp2_with fail)
    go_ret
    exact ⟨rfl, hb⟩
  by_cases hk0 : K < 0
  case pos =>
    rw [if_pos (.inr (.inl hk0))]
    have e2 : (((cs.length : Nat) : Int) != 2) = false := by rw [hl]; rfl
    clear hl
    go_enter Tryz.func22, Tryz.ntmps22
    (go_wp2_with fail); refine (CH.out _ (Below.refl _ _)).mono ?_; rintro e w1 ⟨rfl, hb⟩; (go_wp2_with fail)
    go_ret
    exact ⟨rfl, hb⟩
  by_cases hk1 : 1 < K
  case pos =>
    rw [if_pos (.inr (.inr hk1))]
    have e2 : (((cs.length : Nat) : Int) != 2) = false := by rw [hl]; rfl
    clear hl
    go_enter Tryz.func22, Tryz.ntmps22
    (go_wp2_with fail); refine (CH.out _ (Below.refl _ _)).mono ?_; rintro e w1 ⟨rfl, hb⟩; (go_wp2_with fail)
    go_ret
    exact ⟨rfl, hb⟩
  rw [if_neg (by omega)]
  have e2 : (((cs.length : Nat) : Int) != 2) = false := by rw [hl]; rfl
  clear hl
  go_enter Tryz.func22, Tryz.ntmps22
  (go_wp2_with fail); refine (CH.out _ (Below.refl _ _)).mono ?_; rintro e w1 ⟨rfl, hb⟩; (go_wp2_with fail)
  go_ret
  exact ⟨rfl, hb⟩
set_option linter.unusedSimpArgs false in
set_option maxHeartbeats 8000000 in
set_option maxRecDepth 100000 in
theorem fit_any (A : Option Addr) (ca : Nat) (cs : List CkR) (K : Int) (w : World) (h : IsCs w A cs) :
    Calls Tryz.prog 6 #[.slice A cs.length ca, .int .i64 K] w fun e w' => e = .returned (.bool (Ch.fitP (cs.map Ak.dat) K)) ∧ Below w.heap.size w w' := by
  have gr := rGreatCakes_any A ca cs w h
  have ck := fun v (hv : Below w.heap.size w v) => cakes_any A ca cs K v (h.keep hv)
  unfold Ch.fitP
  clear h
  cases hg : Ak.greatCs (cs.map Ak.dat)
  case true =>
    rw [hg] at gr; have GR := Lib.hid gr; clear gr ck hg
    go_enter Tryz.func6, Tryz.ntmps6
    (go_wp2_with fail); refine GR.out.mono ?_; rintro e w1 ⟨rfl, hb⟩; (go_wp2_with fail)
    go_ret
    exact ⟨rfl, hb⟩
  rw [hg] at gr
  generalize Ch.cakesE (cs.map Ak.dat) K = E at *
  have GR := Lib.hid gr; have CK := Lib.hid ck; clear gr ck hg
  by_cases hE : E = 0
  · subst hE
    go_enter Tryz.func6, Tryz.ntmps6
    (go_wp2_with fail); refine GR.out.mono ?_; rintro e w1 ⟨rfl, hb⟩; (go_wp2_with fail); refine (CK.out _ hb).mono ?_; rintro e w2 ⟨rfl, hb2⟩; (go_wp2_with fail)
    go_ret
    exact ⟨rfl, keepB hb hb2⟩
  · have eb : (E == 0) = false := by rw [beq_eq_false_iff_ne]; exact hE
    rw [decide_eq_false hE]; clear hE
    go_enter Tryz.func6, Tryz.ntmps6
    (go_wp2_with fail); refine GR.out.mono ?_; rintro e w1 ⟨rfl, hb⟩; (go_wp2_with fail); refine (CK.out _ hb).mono ?_; rintro e w2 ⟨rfl, hb2⟩; (go_wp2_with fail)
    go_ret
    exact ⟨rfl, keepB hb hb2⟩
end Go.Proofs.YtpcdggkajindbaaGreat

