/- Package room: gainsAt and its closure; the reference's Gain. -/
import Derived.Test.YtpiolhjiflohgaaLvb
namespace Go.Proofs.Ytpiolhjiflohgaa
open Go.RowKit
/-- A valid lease of a valid flat, in memory. -/
structure Ls (w : World) (A B C : Option Addr) (V : List (List Int)) (R : Int) (a : List Nat) (ps : List Int) (D : Int) : Prop where
  ok : As.Ok V
  r0 : 0 ≤ R
  r1 : R ≤ 10000000
  le : As.Le14 V.length R a ps D
  hM : IsM w A V
  hB : IsI w B (As.al a)
  hC : IsI w C ps
theorem Ls.keep {w v : World} {A B C : Option Addr} {V : List (List Int)} {R : Int} {a : List Nat} {ps : List Int} {D : Int} (h : Ls w A B C V R a ps D) (hb : Below w.heap.size w v) : Ls v A B C V R a ps D :=
  ⟨h.ok, h.r0, h.r1, h.le, h.hM.keep hb, h.hB.keep hb, h.hC.keep hb⟩
theorem Ls.la {w : World} {A B C : Option Addr} {V : List (List Int)} {R : Int} {a : List Nat} {ps : List Int} {D : Int} (h : Ls w A B C V R a ps D) : a.length = V.length := by simpa using h.le.perm.length_eq
theorem Ls.lt {w : World} {A B C : Option Addr} {V : List (List Int)} {R : Int} {a : List Nat} {ps : List Int} {D : Int} (h : Ls w A B C V R a ps D) {i : Nat} (hi : i < V.length) : a.getD i 0 < V.length := (As.perm_lt h.le.perm).2 i hi
/-- The two boxes that a closure has: the flat and the lease. -/
structure Bx (v : World) (p q : Nat) (A : Option Addr) (cv : Nat) (V : List (List Int)) (R : Int) (B : Option Addr) (ca na : Nat) (C : Option Addr) (cp np : Nat) (D : Int) : Prop where
  p0 : v.cell? ⟨p, 0, none⟩ = some (.slice A V.length cv)
  p1 : v.cell? ⟨p, 1, none⟩ = some (.int .i64 R)
  q0 : v.cell? ⟨q, 0, none⟩ = some (.slice B na ca)
  q1 : v.cell? ⟨q, 1, none⟩ = some (.slice C np cp)
  q2 : v.cell? ⟨q, 2, none⟩ = some (.int .i64 D)
theorem Bx.keep {v w : World} {p q : Nat} {A : Option Addr} {cv : Nat} {V : List (List Int)} {R : Int} {B : Option Addr} {ca na : Nat} {C : Option Addr} {cp np : Nat} {D : Int} (h : Bx v p q A cv V R B ca na C cp np D) (hb : Below v.heap.size v w) : Bx w p q A cv V R B ca na C cp np D :=
  ⟨keepC hb h.p0, keepC hb h.p1, keepC hb h.q0, keepC hb h.q1, keepC hb h.q2⟩
theorem Bx.of {v : World} {p q : Nat} {A : Option Addr} {cv : Nat} {V : List (List Int)} {R : Int} {B : Option Addr} {ca na : Nat} {C : Option Addr} {cp np : Nat} {D : Int} (b0 : BK v p [.slice A V.length cv, .int .i64 R]) (b1 : BK v q [.slice B na ca, .slice C np cp, .int .i64 D]) : Bx v p q A cv V R B ca na C cp np D :=
  ⟨b0.c 0 rfl, b0.c 1 rfl, b1.c 0 rfl, b1.c 1 rfl, b1.c 2 rfl⟩
/-- What gainsAt gives. -/
def GaQ (w : World) (A : Option Addr) (cv : Nat) (V : List (List Int)) (R : Int) (B : Option Addr) (ca na : Nat) (C : Option Addr) (cp np : Nat) (D : Int) (e : Ending) (w' : World) : Prop :=
  ∃ p q, e = .returned (.func (.func 72) #[] #[.pointer (some ⟨p, 0, none⟩), .pointer (some ⟨q, 0, none⟩)]) ∧ Bx w' p q A cv V R B ca na C cp np D ∧ Below w.heap.size w w'
set_option maxHeartbeats 2000000 in
theorem gainsAt_any (A : Option Addr) (cv : Nat) (V : List (List Int)) (R : Int) (B : Option Addr) (ca na : Nat) (C : Option Addr) (cp np : Nat) (D : Int) (w : World) :
    Calls Try.prog 51 #[.agg #[.slice A V.length cv, .int .i64 R], .agg #[.slice B na ca, .slice C np cp, .int .i64 D]] w (GaQ w A cv V R B ca na C cp np D) := by
  go_enter Try.func51, Try.ntmps51
  go_upto_region 1 with fail
  refine at_box2 (fun V0 hbb b0 b1 hsz => ?_)
  clear hsz
  have HB := Lib.hid (Bx.of b0 b1)
  have HBB := Lib.hid hbb
  clear b0 b1 hbb
  go_wp2_with fail
  go_ret
  exact ⟨_, _, rfl, HB.out, HBB.out⟩
namespace As
theorem gn_eq (V : List (List Int)) (ps : List Int) (D : Int) (i j : Nat) : gnF V ps D i j = vl V i j * D - el ps j := rfl
theorem mul_bd {V : List (List Int)} (ok : Ok V) {D : Int} (d1 : 1 ≤ D) (d60 : D ≤ 60) (i j : Nat) : 0 ≤ vl V i j * D ∧ vl V i j * D ≤ 60000000 := by
  have h1 := ok.bd i j
  exact ⟨Int.mul_nonneg h1.1 (by omega), Int.le_trans (Int.mul_le_mul h1.2 d60 (by omega) (by omega)) (by decide)⟩
theorem pr_bd {n : Nat} {R : Int} {a : List Nat} {ps : List Int} {D : Int} (h : Le14 n R a ps D) {j : Nat} (hj : j < n) : -600000000 ≤ el ps j ∧ el ps j ≤ 600000000 := by
  have h1 := h.pb j hj
  have h2 := h.d1
  have h3 := h.d60
  omega
end As
/-- The row i of bids, as a cell and cells. -/
theorem row_at {w : World} {A : Option Addr} {V : List (List Int)} (ok : As.Ok V) (h : IsM w A V) {i : Nat} (hi : i < V.length) :
    ∃ b off rb ro c, A = some ⟨b, off, none⟩ ∧ w.cell? ⟨b, off + i, none⟩ = some (.slice (some ⟨rb, ro, none⟩) V.length c) ∧ ∀ j, j < V.length → w.cell? ⟨rb, ro + j, none⟩ = some (.int .i64 (As.vl V i j)) := by
  obtain ⟨b, off, e, hrows⟩ := h (by omega)
  obtain ⟨Q, c, hc, _, hI⟩ := hrows i hi
  rw [ok.row i hi] at hc
  obtain ⟨rb, ro, rfl, hcs⟩ := hI.1 (by rw [ok.row i hi]; omega)
  exact ⟨b, off, rb, ro, c, e, hc, fun j hj => hcs j (by rw [ok.row i hi]; exact hj)⟩
theorem list_at {w : World} {A : Option Addr} {ps : List Int} (h : IsI w A ps) {j : Nat} (hj : j < ps.length) : ∃ b off, A = some ⟨b, off, none⟩ ∧ ∀ k, k < ps.length → w.cell? ⟨b, off + k, none⟩ = some (.int .i64 (As.el ps k)) := by
  obtain ⟨b, off, e, hc⟩ := h.1 (by omega)
  exact ⟨b, off, e, hc⟩
set_option maxRecDepth 100000 in
set_option maxHeartbeats 2000000 in
theorem rmGain1_any (p q : Nat) (A : Option Addr) (cv : Nat) (V : List (List Int)) (R : Int) (B : Option Addr) (ca : Nat) (a : List Nat) (C : Option Addr) (cp : Nat) (ps : List Int) (D : Int) (i j : Nat) (w : World) (hL : Ls w A B C V R a ps D) (hX : Bx w p q A cv V R B ca V.length C cp V.length D) (hi : i < V.length) (hj : j < V.length) :
    Calls Try.prog 72 #[.int .i64 i, .int .i64 j, .pointer (some ⟨p, 0, none⟩), .pointer (some ⟨q, 0, none⟩)] w fun e w' => e = .returned (.int .i64 (As.gnF V ps D i j)) ∧ Below w.heap.size w w' := by
  obtain ⟨b, off, rb, ro, c, rfl, hc, hcs⟩ := row_at hL.ok hL.hM hi
  obtain ⟨cb, co, rfl, hps⟩ := list_at hL.hC (j := j) (by rw [hL.le.len]; exact hj)
  have x1 := hcs j hj
  have x2 := hps j (by rw [hL.le.len]; exact hj)
  have z0 := hX.p0
  have z1 := hX.q1
  have z2 := hX.q2
  obtain ⟨m0, m1⟩ := As.mul_bd hL.ok hL.le.d1 hL.le.d60 i j
  obtain ⟨q0, q1⟩ := As.pr_bd hL.le hj
  rw [As.gn_eq]
  generalize As.vl V i j = x at *
  generalize As.el ps j = z at *
  obtain ⟨y, hy⟩ : ∃ y, x * D = y := ⟨_, rfl⟩
  have hw : IntKind.i64.wrap (x * D) = y := by rw [IntWalk.i64_in _ (by omega)]; exact hy
  rw [hy] at m0 m1
  have hw2 : IntKind.i64.wrap (y - z) = y - z := IntWalk.i64_in _ (by omega)
  rw [hy]
  clear hcs hps hL hX hy
  go_enter Try.func72, Try.ntmps72
  go_upto_region 1 with fail
  go_region_held3 (fun v => Below w.heap.size w v ∧ v.cell? ⟨p, 0, none⟩ = some (.slice (some ⟨b, off, none⟩) V.length cv) ∧ v.cell? ⟨q, 1, none⟩ = some (.slice (some ⟨cb, co, none⟩) V.length cp) ∧ v.cell? ⟨q, 2, none⟩ = some (.int .i64 D) ∧ v.cell? ⟨b, off + i, none⟩ = some (.slice (some ⟨rb, ro, none⟩) V.length c) ∧ v.cell? ⟨rb, ro + j, none⟩ = some (.int .i64 x) ∧ v.cell? ⟨cb, co + j, none⟩ = some (.int .i64 z))
    (first | (exact ⟨(Below.refl _ _).drew, z0, z1, z2, hc, x1, x2⟩) | (exact ⟨Below.refl _ _, z0, z1, z2, hc, x1, x2⟩))
    (fail)
  go_wp2_with fail
  go_ret
  exact ⟨rfl, by first | exact Below.refl _ _ | exact (Below.refl _ _).drew | exact below_drewN (Below.refl _ _) _ | exact (‹Below w.heap.size w _ ∧ _›).1⟩
set_option maxRecDepth 100000 in
set_option maxHeartbeats 2000000 in
theorem rGain_any (A : Option Addr) (cv : Nat) (V : List (List Int)) (R : Int) (B : Option Addr) (ca : Nat) (a : List Nat) (C : Option Addr) (cp : Nat) (ps : List Int) (D : Int) (i j : Nat) (w : World) (hL : Ls w A B C V R a ps D) (hi : i < V.length) (hj : j < V.length) :
    Calls Try.prog 52 #[.agg #[.slice A V.length cv, .int .i64 R], .agg #[.slice B V.length ca, .slice C V.length cp, .int .i64 D], .int .i64 i, .int .i64 j] w fun e w' => e = .returned (.int .i64 (As.gnF V ps D i j)) ∧ Below w.heap.size w w' := by
  obtain ⟨b, off, rb, ro, c, rfl, hc, hcs⟩ := row_at hL.ok hL.hM hi
  obtain ⟨cb, co, rfl, hps⟩ := list_at hL.hC (j := j) (by rw [hL.le.len]; exact hj)
  have x1 := hcs j hj
  have x2 := hps j (by rw [hL.le.len]; exact hj)
  obtain ⟨m0, m1⟩ := As.mul_bd hL.ok hL.le.d1 hL.le.d60 i j
  obtain ⟨q0, q1⟩ := As.pr_bd hL.le hj
  rw [As.gn_eq]
  generalize As.vl V i j = x at *
  generalize As.el ps j = z at *
  obtain ⟨y, hy⟩ : ∃ y, x * D = y := ⟨_, rfl⟩
  have hw : IntKind.i64.wrap (x * D) = y := by rw [IntWalk.i64_in _ (by omega)]; exact hy
  rw [hy] at m0 m1
  have hw2 : IntKind.i64.wrap (y - z) = y - z := IntWalk.i64_in _ (by omega)
  rw [hy]
  have HC := Lib.hid hc
  have HX1 := Lib.hid x1
  have HX2 := Lib.hid x2
  clear hcs hps hL hy hc x1 x2
  go_enter Try.func52, Try.ntmps52
  go_upto_region 1 with fail
  refine at_box2 (fun V0 hbb b0 b1 hsz => ?_)
  clear hsz
  have c0 := b0.c 0 rfl
  have c1 := b1.c 1 rfl
  have c2 := b1.c 2 rfl
  have hc := keepC hbb HC.out
  have x1 := keepC hbb HX1.out
  have x2 := keepC hbb HX2.out
  go_region_held3 (fun v => Below w.heap.size w v ∧ v.cell? ⟨w.heap.size, 0, none⟩ = some (.slice (some ⟨b, off, none⟩) V.length cv) ∧ v.cell? ⟨w.heap.size + 1, 1, none⟩ = some (.slice (some ⟨cb, co, none⟩) V.length cp) ∧ v.cell? ⟨w.heap.size + 1, 2, none⟩ = some (.int .i64 D) ∧ v.cell? ⟨b, off + i, none⟩ = some (.slice (some ⟨rb, ro, none⟩) V.length c) ∧ v.cell? ⟨rb, ro + j, none⟩ = some (.int .i64 x) ∧ v.cell? ⟨cb, co + j, none⟩ = some (.int .i64 z))
    (first | (exact ⟨hbb.drew, c0, c1, c2, hc, x1, x2⟩) | (exact ⟨hbb, c0, c1, c2, hc, x1, x2⟩))
    (fail)
  go_wp2_with fail
  go_ret
  exact ⟨rfl, by first | exact hbb | exact hbb.drew | exact below_drewN hbb _ | exact (‹Below w.heap.size w _ ∧ _›).1⟩
end Go.Proofs.Ytpiolhjiflohgaa
