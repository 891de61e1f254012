/- Package choose: Check, Next, Division, Start of valid states. Package choose: what is refused. What ChooseLine asks of valid states. -/
import Derived.Test.YtniagnldiegamaaGreatGs
namespace Go.Proofs.YtniagnldiegamaaGreat
open Go.RowKit



set_option linter.unusedSimpArgs false in
set_option maxHeartbeats 8000000 in
set_option maxRecDepth 100000 in
theorem start_ok (A : Option Addr) (m ca : Nat) (K x y : Int) (b : Bool) (D : List CkD) (L : List Qr) (w : World) (hR : ∀ v, Below w.heap.size w v → Calls Tryz.prog 28 #[.slice A m ca, .int .i64 K, .int .i64 0] v (StR D L K 0 x y b v)) :
    Calls Tryz.prog 8 #[.slice A m ca, .int .i64 K] w (StR D L K 0 x y b w) := by
  unfold StR at hR
  have REA := Lib.hid hR; clear hR
  go_enter Tryz.func8, Tryz.ntmps8
  go_upto_region 1 with fail
  refine at_box1 (fun V hbb B0 hVs => ?_); clear hVs; (go_wp2_with fail); refine (REA.out _ hbb).mono ?_; rintro e w2 ⟨A1, m1, ca1, Q1, n1, cq1, l1, rfl, hb, hm1, hn1, hd1, hfd⟩; have HM1 := Lib.hid hm1; have HN1 := Lib.hid hn1; have HD1 := Lib.hid hd1; clear hm1 hn1 hd1; have hlt1 := B0.lt; replace hbb := keepB hbb hb; replace B0 := B0.keep hb; clear hb; have hlt := B0.lt; have ya0 := B0.c 0 rfl; have ya1 := B0.c 1 rfl; have ya2 := B0.c 2 rfl; have ya3 := B0.c 3 rfl; have ya4 := B0.c 4 rfl; have ya5 := B0.c 5 rfl; have ya6 := B0.c 6 rfl; have yb0 := B0.f 0 rfl; have yb1 := B0.f 1 rfl; have yb2 := B0.f 2 rfl; have yb3 := B0.f 3 rfl; have yb4 := B0.f 4 rfl; have yb5 := B0.f 5 rfl; have yb6 := B0.f 6 rfl; (go_wp2_with fail); exact bodyPost_ret (v := .tuple #[.agg #[.slice A1 m1 ca1, .slice Q1 n1 cq1, .int .i64 K, .int .i64 0, .int .i64 x, .int .i64 y, .bool b], .int .i64 0]) (by simp [results, Tryz.results8, go_sem, ya0, ya1, ya2, ya3, ya4, ya5, ya6]) rfl (StR.mk A1 m1 ca1 Q1 n1 cq1 l1 rfl (below_set (below_set (below_set (below_set (below_set (below_set (below_set hbb (by omega) _) (by omega) _) (by omega) _) (by omega) _) (by omega) _) (by omega) _) (by omega) _) HM1.out HN1.out HD1.out ((((((((hfd.set (by omega) _).set (by omega) _).set (by omega) _).set (by omega) _).set (by omega) _).set (by omega) _).set (by omega) _).mono (by omega)))
end Go.Proofs.YtniagnldiegamaaGreat

set_option linter.unusedSimpArgs false
set_option maxHeartbeats 8000000
set_option maxRecDepth 100000
namespace Go.Proofs.YtniagnldiegamaaGreat
open Go.RowKit
theorem reached_open (A : Option Addr) (ca : Nat) (cs : List CkR) (K s : Int) (w : World) (h : IsCs w A cs) (hE : Ak.chkS (cs.map Ak.dat) 0 ≠ 0) :
    Calls Tryz.prog 28 #[.slice A cs.length ca, .int .i64 K, .int .i64 s] w fun e w' => e = .returned (.tuple #[.agg #[.slice none 0 0, .slice none 0 0, .int .i64 0, .int .i64 0, .int .i64 0, .int .i64 0, .bool false], .int .i64 (Ak.chkS (cs.map Ak.dat) 0)]) ∧ Below w.heap.size w w' := by
  have op := fun v (hv : Below w.heap.size w v) => askOpen_any A ca cs v (h.keep hv)
  unfold OpenQ at op
  generalize Ak.chkS (cs.map Ak.dat) 0 = E at *
  have n0 : (E != 0) = true := by rw [bne_iff_ne]; exact hE
  have OP := Lib.hid op; have HE := Lib.hid hE; clear op h hE
  go_enter Tryz.func28, Tryz.ntmps28
  go_upto_region 1 with fail
  refine at_box1 (fun V hbb B0 hVs => ?_); (go_wp2_with fail); refine (OP.out _ hbb).mono ?_; rintro e w1 ⟨hb, ⟨_, rfl⟩ | ⟨h0, _⟩⟩
  case inr => exact absurd h0 HE.out
  replace hbb := keepB hbb hb; replace B0 := B0.keep hb; clear hb
  go_upto_region 2 with fail
  refine at_worldQ (fun v => Below w.heap.size w v ∧ BK v w.heap.size [.slice none 0 0, .slice none 0 0, .int .i64 0, .int .i64 0, .int .i64 0, .int .i64 0, .bool false]) ⟨below_al hbb _, B0.al _⟩ (fun V2 hS => ?_); clear hbb B0; obtain ⟨hbb, B0⟩ := hS; have hlt := B0.lt; have ya0 := B0.c 0 rfl; have ya1 := B0.c 1 rfl; have ya2 := B0.c 2 rfl; have ya3 := B0.c 3 rfl; have ya4 := B0.c 4 rfl; have ya5 := B0.c 5 rfl; have ya6 := B0.c 6 rfl; have yb0 := B0.f 0 rfl; have yb1 := B0.f 1 rfl; have yb2 := B0.f 2 rfl; have yb3 := B0.f 3 rfl; have yb4 := B0.f 4 rfl; have yb5 := B0.f 5 rfl; have yb6 := B0.f 6 rfl; (go_wp2_with fail); exact bodyPost_ret (v := .tuple #[.agg #[.slice none 0 0, .slice none 0 0, .int .i64 0, .int .i64 0, .int .i64 0, .int .i64 0, .bool false], .int .i64 E]) (by simp [results, Tryz.results28, go_sem, ya0, ya1, ya2, ya3, ya4, ya5, ya6]) rfl ⟨rfl, (below_set (below_set (below_set (below_set (below_set (below_set (below_set hbb (by omega) _) (by omega) _) (by omega) _) (by omega) _) (by omega) _) (by omega) _) (by omega) _)⟩
theorem reached_arg (A : Option Addr) (ca : Nat) (cs : List CkR) (K s : Int) (w : World) (h : IsCs w A cs) (hE : Ak.chkS (cs.map Ak.dat) 0 = 0) (hb : ¬ (cs.length = 2 ∧ (K = 0 ∨ K = 1))) :
    Calls Tryz.prog 28 #[.slice A cs.length ca, .int .i64 K, .int .i64 s] w fun e w' => e = .returned (.tuple #[.agg #[.slice none 0 0, .slice none 0 0, .int .i64 0, .int .i64 0, .int .i64 0, .int .i64 0, .bool false], .int .i64 2]) ∧ Below w.heap.size w w' := by
  have op := fun v (hv : Below w.heap.size w v) => askOpen_any A ca cs v (h.keep hv)
  unfold OpenQ at op
  have e0 : ((0 : Int) != 0) = false := rfl; have OP := Lib.hid op; have HE := Lib.hid hE; clear op h hE
  by_cases hl : cs.length = 2
  case neg =>
    have e2 : (((cs.length : Nat) : Int) != 2) = true := by rw [bne_iff_ne]; omega
    clear hl hb
    go_enter Tryz.func28, Tryz.ntmps28
    go_upto_region 1 with fail
    refine at_box1 (fun V hbb B0 hVs => ?_); (go_wp2_with fail); refine (OP.out _ hbb).mono ?_; rintro e w1 ⟨hb, ⟨hn, _⟩ | ⟨_, A1, ca1, l1, Q1, cq1, rfl, hd1, hfd⟩⟩
    · exact absurd HE.out hn
    clear hd1 hfd; replace hbb := keepB hbb hb; replace B0 := B0.keep hb; clear hb
    go_upto_region 2 with fail
    refine at_worldQ (fun v => Below w.heap.size w v ∧ BK v w.heap.size [.slice none 0 0, .slice none 0 0, .int .i64 0, .int .i64 0, .int .i64 0, .int .i64 0, .bool false]) ⟨below_al hbb _, B0.al _⟩ (fun V2 hS => ?_); clear hbb B0; obtain ⟨hbb, B0⟩ := hS; have hlt := B0.lt; have ya0 := B0.c 0 rfl; have ya1 := B0.c 1 rfl; have ya2 := B0.c 2 rfl; have ya3 := B0.c 3 rfl; have ya4 := B0.c 4 rfl; have ya5 := B0.c 5 rfl; have ya6 := B0.c 6 rfl; have yb0 := B0.f 0 rfl; have yb1 := B0.f 1 rfl; have yb2 := B0.f 2 rfl; have yb3 := B0.f 3 rfl; have yb4 := B0.f 4 rfl; have yb5 := B0.f 5 rfl; have yb6 := B0.f 6 rfl; (go_wp2_with fail); exact bodyPost_ret (v := .tuple #[.agg #[.slice none 0 0, .slice none 0 0, .int .i64 0, .int .i64 0, .int .i64 0, .int .i64 0, .bool false], .int .i64 2]) (by simp [results, Tryz.results28, go_sem, ya0, ya1, ya2, ya3, ya4, ya5, ya6]) rfl ⟨rfl, (below_set (below_set (below_set (below_set (below_set (below_set (below_set hbb (by omega) _) (by omega) _) (by omega) _) (by omega) _) (by omega) _) (by omega) _) (by omega) _)⟩
  have e2 : (((cs.length : Nat) : Int) != 2) = false := by rw [hl]; rfl
  have k0 : (K != 0) = true := by rw [bne_iff_ne]; omega
  have k1 : (K != 1) = true := by rw [bne_iff_ne]; omega
  clear hl hb
  go_enter Tryz.func28, Tryz.ntmps28
  go_upto_region 1 with fail
  refine at_box1 (fun V hbb B0 hVs => ?_); (go_wp2_with fail); refine (OP.out _ hbb).mono ?_; rintro e w1 ⟨hb, ⟨hn, _⟩ | ⟨_, A1, ca1, l1, Q1, cq1, rfl, hd1, hfd⟩⟩
  · exact absurd HE.out hn
  clear hd1 hfd; replace hbb := keepB hbb hb; replace B0 := B0.keep hb; clear hb
  go_upto_region 2 with fail
  refine at_worldQ (fun v => Below w.heap.size w v ∧ BK v w.heap.size [.slice none 0 0, .slice none 0 0, .int .i64 0, .int .i64 0, .int .i64 0, .int .i64 0, .bool false]) ⟨below_al hbb _, B0.al _⟩ (fun V2 hS => ?_); clear hbb B0; obtain ⟨hbb, B0⟩ := hS; have hlt := B0.lt; have ya0 := B0.c 0 rfl; have ya1 := B0.c 1 rfl; have ya2 := B0.c 2 rfl; have ya3 := B0.c 3 rfl; have ya4 := B0.c 4 rfl; have ya5 := B0.c 5 rfl; have ya6 := B0.c 6 rfl; have yb0 := B0.f 0 rfl; have yb1 := B0.f 1 rfl; have yb2 := B0.f 2 rfl; have yb3 := B0.f 3 rfl; have yb4 := B0.f 4 rfl; have yb5 := B0.f 5 rfl; have yb6 := B0.f 6 rfl; (go_wp2_with fail); exact bodyPost_ret (v := .tuple #[.agg #[.slice none 0 0, .slice none 0 0, .int .i64 0, .int .i64 0, .int .i64 0, .int .i64 0, .bool false], .int .i64 2]) (by simp [results, Tryz.results28, go_sem, ya0, ya1, ya2, ya3, ya4, ya5, ya6]) rfl ⟨rfl, (below_set (below_set (below_set (below_set (below_set (below_set (below_set hbb (by omega) _) (by omega) _) (by omega) _) (by omega) _) (by omega) _) (by omega) _) (by omega) _)⟩
theorem start_err (A : Option Addr) (m ca : Nat) (K E : Int) (w : World) (hR : ∀ v, Below w.heap.size w v → Calls Tryz.prog 28 #[.slice A m ca, .int .i64 K, .int .i64 0] v fun e v' => e = .returned (.tuple #[.agg #[.slice none 0 0, .slice none 0 0, .int .i64 0, .int .i64 0, .int .i64 0, .int .i64 0, .bool false], .int .i64 E]) ∧ Below v.heap.size v v') :
    Calls Tryz.prog 8 #[.slice A m ca, .int .i64 K] w fun e w' => e = .returned (.tuple #[.agg #[.slice none 0 0, .slice none 0 0, .int .i64 0, .int .i64 0, .int .i64 0, .int .i64 0, .bool false], .int .i64 E]) ∧ Below w.heap.size w w' := by
  have REA := Lib.hid hR; clear hR
  go_enter Tryz.func8, Tryz.ntmps8
  go_upto_region 1 with fail
  refine at_box1 (fun V hbb B0 hVs => ?_); clear hVs; (go_wp2_with fail); refine (REA.out _ hbb).mono ?_; rintro e w2 ⟨rfl, hb⟩; replace hbb := keepB hbb hb; replace B0 := B0.keep hb; clear hb; have hlt := B0.lt; have ya0 := B0.c 0 rfl; have ya1 := B0.c 1 rfl; have ya2 := B0.c 2 rfl; have ya3 := B0.c 3 rfl; have ya4 := B0.c 4 rfl; have ya5 := B0.c 5 rfl; have ya6 := B0.c 6 rfl; have yb0 := B0.f 0 rfl; have yb1 := B0.f 1 rfl; have yb2 := B0.f 2 rfl; have yb3 := B0.f 3 rfl; have yb4 := B0.f 4 rfl; have yb5 := B0.f 5 rfl; have yb6 := B0.f 6 rfl; (go_wp2_with fail); exact bodyPost_ret (v := .tuple #[.agg #[.slice none 0 0, .slice none 0 0, .int .i64 0, .int .i64 0, .int .i64 0, .int .i64 0, .bool false], .int .i64 E]) (by simp [results, Tryz.results8, go_sem, ya0, ya1, ya2, ya3, ya4, ya5, ya6]) rfl ⟨rfl, (below_set (below_set (below_set (below_set (below_set (below_set (below_set hbb (by omega) _) (by omega) _) (by omega) _) (by omega) _) (by omega) _) (by omega) _) (by omega) _)⟩
theorem run_err (A : Option Addr) (m ca : Nat) (K E : Int) (w : World) (hE : E ≠ 0) (hR : ∀ v, Below w.heap.size w v → Calls Tryz.prog 28 #[.slice A m ca, .int .i64 K, .int .i64 2] v fun e v' => e = .returned (.tuple #[.agg #[.slice none 0 0, .slice none 0 0, .int .i64 0, .int .i64 0, .int .i64 0, .int .i64 0, .bool false], .int .i64 E]) ∧ Below v.heap.size v v') :
    Calls Tryz.prog 10 #[.slice A m ca, .int .i64 K] w fun e w' => e = .returned (.tuple #[.agg #[.slice none 0 0], .slice none 0 0, .int .i64 E]) ∧ Below w.heap.size w w' := by
  have n0 : (E != 0) = true := by rw [bne_iff_ne]; exact hE
  have REA := Lib.hid hR; clear hR hE
  go_enter Tryz.func10, Tryz.ntmps10
  go_upto_region 1 with fail
  refine at_box1 (fun V hbb B0 hVs => ?_); clear hVs; (go_wp2_with fail); refine (REA.out _ hbb).mono ?_; rintro e w2 ⟨rfl, hb⟩; replace hbb := keepB hbb hb; replace B0 := B0.keep hb; clear hb
  go_upto_region 2 with fail
  refine at_worldQ (fun v => Below w.heap.size w v ∧ BK v w.heap.size [.slice none 0 0]) ⟨below_al hbb _, B0.al _⟩ (fun V2 hS => ?_); clear hbb B0; obtain ⟨hbb, B0⟩ := hS; have ya0 := B0.c 0 rfl; have yb0 := B0.f 0 rfl; have hlt := B0.lt; (go_wp2_with fail); exact bodyPost_ret (v := .tuple #[.agg #[.slice none 0 0], .slice none 0 0, .int .i64 E]) (by simp [results, Tryz.results10, go_sem, ya0]) rfl ⟨rfl, (below_set hbb (by omega) _)⟩
end Go.Proofs.YtniagnldiegamaaGreat

namespace Go.Proofs.YtniagnldiegamaaGreat
open Go.RowKit
/-- What Run gives for two valid cakes, with the desk that the log lies in. -/
def RunF (L : List Qr) (a0 b0 c0 d0 a1 b1 c1 d1 : Int) (w : World) (e : Ending) (w' : World) : Prop :=
  ∃ (P g0 g1 : Nat) (A : Option Addr) (ca : Nat) (Q : Option Addr) (cq : Nat) (l : List CkR) (n : Nat), e = .returned (.tuple #[.agg #[.slice (some ⟨P, 0, none⟩) 2 2], .slice Q n cq, .int .i64 0]) ∧ Below w.heap.size w w' ∧ n = L.length ∧ FD w' w.heap.size A ca l Q cq L ∧ DivB w.heap.size P g0 g1 a0 b0 c0 d0 a1 b1 c1 d1 w'
/-- The desk of a state. -/
structure Vl (D : List CkD) (L : List Qr) (A : Option Addr) (m : Nat) (Q : Option Addr) (n : Nat) (l : List CkR) (w : World) : Prop where
  cs : IsCs w A l
  m : m = l.length
  d : l.map Ak.dat = D
  q : IsQs w Q L
  n : n = L.length
theorem Vl.keep {D : List CkD} {L : List Qr} {A : Option Addr} {m : Nat} {Q : Option Addr} {n : Nat} {l : List CkR} {w v : World} (h : Vl D L A m Q n l w) (hb : Below w.heap.size w v) : Vl D L A m Q n l v := ⟨h.cs.keep hb, h.m, h.d, h.q.keep hb, h.n⟩
section
variable {D : List CkD} {k j : Nat} {h1 h2 g1 g2 x y v1 v2 z : Int}
theorem Ch.Rn.start (R : Ch.Rn D k j h1 h2 g1 g2 x y v1 v2 z) (hc : Ak.chkS D 0 = 0) (hl : D.length = 2) (A : Option Addr) (ca : Nat) (cs : List CkR) (w : World) (h : IsCs w A cs) (hD : cs.map Ak.dat = D) :
    Calls Tryz.prog 8 #[.slice A cs.length ca, .int .i64 k] w (StR D [] k 0 0 1 false w) :=
  start_ok A cs.length ca k 0 1 false D [] w (fun v hv => R.reach hc hl 0 (by omega) A ca cs v (h.keep hv) hD)
end
end Go.Proofs.YtniagnldiegamaaGreat

