/- Package room: Check, sum, arePrices. Package room: Valid. Package room: gainsAt and its closure; the reference's Gain. Package room: Gains; the reference's Gains. -/
import Derived.Test.YtfpaefnaidppmaaYf
import Derived.Deep.RegionHeld3
import Derived.Test.YtfpaefnaidppmaaYd
namespace Go.Proofs.Ytfpaefnaidppmaa
open Go.RowKit
namespace As
theorem sm_el_bd {ps : List Int} {M : Int} {n : Nat} (h : ∀ j, j < n → -M ≤ el ps j ∧ el ps j ≤ M) : ∀ k, k ≤ n → -(k * M) ≤ sm (el ps) (List.range k) ∧ sm (el ps) (List.range k) ≤ k * M
  | 0, _ => by simp [sm]
  | k + 1, hk => by
    have ih := sm_el_bd h k (by omega)
    have h1 := h k (by omega)
    rw [List.range_succ, sm_append]
    simp only [sm]
    rw [show ((k + 1 : Nat) : Int) = k + 1 from rfl, Int.add_mul]
    omega
theorem sm_range_succ (f : Nat → Int) (k : Nat) : sm f (List.range (k + 1)) = sm f (List.range k) + f k := by
  rw [List.range_succ, sm_append]; simp [sm]
end As
namespace As
/-- Is a price within m of 0? -/
def pIn (m x : Int) : Bool := decide (-m ≤ x) && decide (x ≤ m)
/-- arePrices. -/
def apB (ps : List Int) (n : Nat) (m : Int) : Bool := decide (ps.length = n) && (List.range n).all (fun j => pIn m (el ps j))
theorem apB_len {ps : List Int} {n : Nat} {m : Int} (h : ¬ ps.length = n) : apB ps n m = false := by unfold apB; rw [decide_eq_false h, Bool.false_and]
theorem apB_no {ps : List Int} {n : Nat} {m : Int} {k : Nat} (hk : k < n) (h : pIn m (el ps k) = false) : apB ps n m = false := by
  unfold apB; rw [Bool.and_eq_false_iff]; right; rw [List.all_eq_false]; exact ⟨k, by simpa using hk, by rw [h]; simp⟩
theorem apB_yes {ps : List Int} {n : Nat} {m : Int} (hl : ps.length = n) (h : ∀ k, k < n → pIn m (el ps k) = true) : apB ps n m = true := by
  unfold apB; rw [decide_eq_true hl, Bool.true_and, List.all_eq_true]; intro k hk; exact h k (by simpa using hk)
end As
end Go.Proofs.Ytfpaefnaidppmaa
namespace Go.Proofs.Ytfpaefnaidppmaa
open Go.RowKit
namespace As
theorem valS_no {V : List (List Int)} {xs : List Int} (h0 : chk V = 0) (h : isA xs V.length = false) : valS V xs = (0, 8) := by unfold valS; rw [if_pos h0, h]; rfl
theorem valS_ok {V : List (List Int)} {xs : List Int} (h0 : chk V = 0) (h : isA xs V.length = true) : (valS V xs).2 = 0 := by unfold valS; rw [if_pos h0, if_pos h]
theorem vld_no {V : List (List Int)} {R D : Int} {xs ps : List Int} (h0 : rchk V R = 0) (h : leB V.length R xs ps D = false) : vld V R xs ps D = 8 := by unfold vld; rw [if_pos h0, h]; rfl
theorem vld_yes {V : List (List Int)} {R D : Int} {xs ps : List Int} (h0 : rchk V R = 0) (h : leB V.length R xs ps D = true) : vld V R xs ps D = 0 := by unfold vld; rw [if_pos h0, if_pos h]
theorem vld_err {V : List (List Int)} {R D : Int} {xs ps : List Int} (h0 : rchk V R ≠ 0) : vld V R xs ps D = rchk V R := by unfold vld; rw [if_neg h0]
theorem rchk_two (V : List (List Int)) (R : Int) : (rchk V R = 0 ∧ chk V = 0 ∧ 0 ≤ R ∧ R ≤ 10000000) ∨ ((rchk V R != 0) = true ∧ rchk V R ≠ 0) := by
  rcases rchk_cases V R with h | ⟨h, _⟩ | ⟨h1, h2, h3⟩
  · exact .inl h
  · exact .inr ⟨by rw [h]; rfl, by rw [h]; decide⟩
  · exact .inr ⟨by rw [h1]; exact h2, by rw [h1]; exact h3⟩
theorem pIn_prB (D x : Int) : pIn (10000000 * D) x = prB D x := by
  unfold pIn prB
  rw [show -(10000000 * D) = -10000000 * D by omega]
theorem leB_eq (n : Nat) (R : Int) (xs ps : List Int) (D : Int) : leB n R xs ps D = (isA xs n && (decide (1 ≤ D) && (decide (D ≤ 60) && (apB ps n (10000000 * D) && decide (sm (el ps) (List.range n) = D * R))))) := by
  unfold leB apB
  simp only [pIn_prB]
  generalize isA xs n = b1
  generalize decide (ps.length = n) = b2
  generalize decide (1 ≤ D) = b3
  generalize decide (D ≤ 60) = b4
  generalize (List.range n).all (fun j => prB D (el ps j)) = b5
  generalize decide (sm (el ps) (List.range n) = D * R) = b6
  cases b1 <;> cases b2 <;> cases b3 <;> cases b4 <;> cases b5 <;> cases b6 <;> rfl
theorem apB_bd {ps : List Int} {n : Nat} {D : Int} (h : apB ps n (10000000 * D) = true) (d1 : 1 ≤ D) (d2 : D ≤ 60) : ps.length = n ∧ ∀ j, j < n → -1000000000 ≤ el ps j ∧ el ps j ≤ 1000000000 := by
  unfold apB pIn at h
  simp only [Bool.and_eq_true, decide_eq_true_eq, List.all_eq_true, List.mem_range] at h
  exact ⟨h.1, fun j hj => by have := h.2 j hj; omega⟩
end As
end Go.Proofs.Ytfpaefnaidppmaa
namespace Go.Proofs.Ytfpaefnaidppmaa
open Go.RowKit
/-- A valid lease of a valid flat, in memory. -/
structure Ls (w : World) (A B C : Option Addr) (V : List (List Int)) (R : Int) (a : List Nat) (ps : List Int) (D : Int) : Prop where
  ok : As.Ok V
  r0 : 0 ≤ R
  r1 : R ≤ 10000000
  le : As.Le14 V.length R a ps D
  hM : IsM w A V
  hB : IsI w B (As.al a)
  hC : IsI w C ps
theorem Ls.keep {w v : World} {A B C : Option Addr} {V : List (List Int)} {R : Int} {a : List Nat} {ps : List Int} {D : Int} (h : Ls w A B C V R a ps D) (hb : Below w.heap.size w v) : Ls v A B C V R a ps D :=
  ⟨h.ok, h.r0, h.r1, h.le, h.hM.keep hb, h.hB.keep hb, h.hC.keep hb⟩
theorem Ls.la {w : World} {A B C : Option Addr} {V : List (List Int)} {R : Int} {a : List Nat} {ps : List Int} {D : Int} (h : Ls w A B C V R a ps D) : a.length = V.length := by simpa using h.le.perm.length_eq
theorem Ls.lt {w : World} {A B C : Option Addr} {V : List (List Int)} {R : Int} {a : List Nat} {ps : List Int} {D : Int} (h : Ls w A B C V R a ps D) {i : Nat} (hi : i < V.length) : a.getD i 0 < V.length := (As.perm_lt h.le.perm).2 i hi
/-- The two boxes that a closure has: the flat and the lease. -/
structure Bx (v : World) (p q : Nat) (A : Option Addr) (cv : Nat) (V : List (List Int)) (R : Int) (B : Option Addr) (ca na : Nat) (C : Option Addr) (cp np : Nat) (D : Int) : Prop where
  p0 : v.cell? ⟨p, 0, none⟩ = some (.slice A V.length cv)
  p1 : v.cell? ⟨p, 1, none⟩ = some (.int .i64 R)
  q0 : v.cell? ⟨q, 0, none⟩ = some (.slice B na ca)
  q1 : v.cell? ⟨q, 1, none⟩ = some (.slice C np cp)
  q2 : v.cell? ⟨q, 2, none⟩ = some (.int .i64 D)
theorem Bx.keep {v w : World} {p q : Nat} {A : Option Addr} {cv : Nat} {V : List (List Int)} {R : Int} {B : Option Addr} {ca na : Nat} {C : Option Addr} {cp np : Nat} {D : Int} (h : Bx v p q A cv V R B ca na C cp np D) (hb : Below v.heap.size v w) : Bx w p q A cv V R B ca na C cp np D :=
  ⟨keepC hb h.p0, keepC hb h.p1, keepC hb h.q0, keepC hb h.q1, keepC hb h.q2⟩
theorem Bx.of {v : World} {p q : Nat} {A : Option Addr} {cv : Nat} {V : List (List Int)} {R : Int} {B : Option Addr} {ca na : Nat} {C : Option Addr} {cp np : Nat} {D : Int} (b0 : BK v p [.slice A V.length cv, .int .i64 R]) (b1 : BK v q [.slice B na ca, .slice C np cp, .int .i64 D]) : Bx v p q A cv V R B ca na C cp np D :=
  ⟨b0.c 0 rfl, b0.c 1 rfl, b1.c 0 rfl, b1.c 1 rfl, b1.c 2 rfl⟩
namespace As
theorem gn_eq (V : List (List Int)) (ps : List Int) (D : Int) (i j : Nat) : gnF V ps D i j = vl V i j * D - el ps j := rfl
theorem mul_bd {V : List (List Int)} (ok : Ok V) {D : Int} (d1 : 1 ≤ D) (d60 : D ≤ 60) (i j : Nat) : 0 ≤ vl V i j * D ∧ vl V i j * D ≤ 60000000 := by
  have h1 := ok.bd i j
  exact ⟨Int.mul_nonneg h1.1 (by omega), Int.le_trans (Int.mul_le_mul h1.2 d60 (by omega) (by omega)) (by decide)⟩
theorem pr_bd {n : Nat} {R : Int} {a : List Nat} {ps : List Int} {D : Int} (h : Le14 n R a ps D) {j : Nat} (hj : j < n) : -600000000 ≤ el ps j ∧ el ps j ≤ 600000000 := by
  have h1 := h.pb j hj
  have h2 := h.d1
  have h3 := h.d60
  omega
end As
/-- The row i of bids, as a cell and cells. -/
theorem row_at {w : World} {A : Option Addr} {V : List (List Int)} (ok : As.Ok V) (h : IsM w A V) {i : Nat} (hi : i < V.length) :
    ∃ b off rb ro c, A = some ⟨b, off, none⟩ ∧ w.cell? ⟨b, off + i, none⟩ = some (.slice (some ⟨rb, ro, none⟩) V.length c) ∧ ∀ j, j < V.length → w.cell? ⟨rb, ro + j, none⟩ = some (.int .i64 (As.vl V i j)) := by
  obtain ⟨b, off, e, hrows⟩ := h (by omega)
  obtain ⟨Q, c, hc, _, hI⟩ := hrows i hi
  rw [ok.row i hi] at hc
  obtain ⟨rb, ro, rfl, hcs⟩ := hI.1 (by rw [ok.row i hi]; omega)
  exact ⟨b, off, rb, ro, c, e, hc, fun j hj => hcs j (by rw [ok.row i hi]; exact hj)⟩
theorem list_at {w : World} {A : Option Addr} {ps : List Int} (h : IsI w A ps) {j : Nat} (hj : j < ps.length) : ∃ b off, A = some ⟨b, off, none⟩ ∧ ∀ k, k < ps.length → w.cell? ⟨b, off + k, none⟩ = some (.int .i64 (As.el ps k)) := by
  obtain ⟨b, off, e, hc⟩ := h.1 (by omega)
  exact ⟨b, off, e, hc⟩
end Go.Proofs.Ytfpaefnaidppmaa
namespace Go.Proofs.Ytfpaefnaidppmaa
open Go.RowKit
namespace As
/-- What Gains returns. -/
def gnS (V : List (List Int)) (R : Int) (xs ps : List Int) (D : Int) : List Int := if vld V R xs ps D = 0 then gnl V (xs.map Int.toNat) ps D V.length else []
theorem gnl_len (V : List (List Int)) (a : List Nat) (ps : List Int) (D : Int) (k : Nat) : (gnl V a ps D k).length = k := by simp [gnl]
theorem vld_cases (V : List (List Int)) (R : Int) (xs ps : List Int) (D : Int) : vld V R xs ps D = 0 ∨ (vld V R xs ps D != 0) = true ∧ vld V R xs ps D ≠ 0 := by
  by_cases h : vld V R xs ps D = 0
  · exact .inl h
  · exact .inr ⟨by rw [bne_iff_ne]; exact h, h⟩
theorem gnS_no {V : List (List Int)} {R : Int} {xs ps : List Int} {D : Int} (h : vld V R xs ps D ≠ 0) : gnS V R xs ps D = [] := by unfold gnS; rw [if_neg h]
theorem gnS_yes {V : List (List Int)} {R : Int} {a : List Nat} {ps : List Int} {D : Int} (h : vld V R (al a) ps D = 0) : gnS V R (al a) ps D = gnl V a ps D V.length := by unfold gnS; rw [if_pos h, toNat_al]
end As
/-- A valid lease in memory. -/
theorem ls_of {w : World} {A B C : Option Addr} {V : List (List Int)} {R : Int} {xs ps : List Int} {D : Int} (h : As.vld V R xs ps D = 0) (hM : IsM w A V) (hB : IsI w B xs) (hC : IsI w C ps) : ∃ a, xs = As.al a ∧ Ls w A B C V R a ps D := by
  obtain ⟨ok, r0, r1, a, rfl, le⟩ := As.vld_zero h
  exact ⟨a, rfl, ok, r0, r1, le, hM, hB, hC⟩
/-- What Gains gives. -/
def GnQ (w : World) (V : List (List Int)) (R : Int) (xs ps : List Int) (D : Int) (e : Ending) (w' : World) : Prop :=
  ∃ X c, e = .returned (.tuple #[.slice X (As.gnS V R xs ps D).length c, .int .i64 (As.vld V R xs ps D)]) ∧ IsI w' X (As.gnS V R xs ps D) ∧ Below w.heap.size w w'
/-- An int more in a slice of the call's own. -/
theorem own_app {W w3 w6 : World} {v : Value} {o : Obj} {B : Nat} (hB : B = W.heap.size) (hb : Below W.heap.size W w3) (hO : ∀ g, v.ownBlock = some g → B ≤ g) (hg : (w3.alloc o).grownBy w6 v.ownBlock) : Below W.heap.size W w6 := by
  subst hB
  exact (below_al hb o).grown hg (by have := hb.size; simp; omega) hO
theorem gn_i64 {w : World} {A B C : Option Addr} {V : List (List Int)} {R : Int} {a : List Nat} {ps : List Int} {D : Int} (h : Ls w A B C V R a ps D) : ∀ x ∈ As.gnl V a ps D V.length, I64 x := fun x hx => by
  obtain ⟨i, hi, rfl⟩ := List.mem_map.1 hx
  have hi' : i < V.length := by simpa using hi
  have := As.gnF_bd h.ok h.le i (h.lt hi')
  unfold I64; omega
end Go.Proofs.Ytfpaefnaidppmaa
