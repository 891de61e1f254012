/- The fair lease: who gains more than the least wants another room; stakes. Mathematics and calls. -/
import Derived.Test.YtncmffhoodfhjaaLxj1
import Derived.Test.YtncmffhoodfhjaaYk
namespace Go.Proofs.Ytncmffhoodfhjaa
open Go.RowKit
namespace As
/-- The least gain of the first k agents, as the law finds it. -/
def lsF (V : List (List Int)) (b : List Nat) (P : List Int) (D : Int) : Nat → Int
  | 0 => 0
  | k + 1 => if k = 0 ∨ gnF V P D k (b.getD k 0) < lsF V b P D k then gnF V P D k (b.getD k 0) else lsF V b P D k
theorem lsF_mnk {V : List (List Int)} {b : List Nat} {P : List Int} {D : Int} : ∀ k, k < V.length → lsF V b P D (k + 1) = mnk (gnl V b P D V.length) (k + 1)
  | 0, hk => by
    rw [mnk_one, el_gnl V b P D hk]
    simp [lsF]
  | k + 1, hk => by
    have ih := lsF_mnk (V := V) (b := b) (P := P) (D := D) k (by omega)
    rw [mnk_succ, ← ih, el_gnl V b P D hk]
    show (if k + 1 = 0 ∨ gnF V P D (k + 1) (b.getD (k + 1) 0) < lsF V b P D (k + 1) then _ else _) = _
    split <;> omega
theorem lsF_end {V : List (List Int)} {b : List Nat} {P : List Int} {D : Int} (h : 0 < V.length) : lsF V b P D V.length = lsG V b P D := by
  have := lsF_mnk (V := V) (b := b) (P := P) (D := D) (V.length - 1) (by omega)
  rw [show V.length - 1 + 1 = V.length by omega] at this
  exact this
/-- What the law has found of agent i after k rooms. -/
def heldB (V : List (List Int)) (b : List Nat) (P : List Int) (D : Int) (i k : Nat) : Bool := (gnF V P D i (b.getD i 0) == lsG V b P D) || (List.range k).any fun m => (m != i) && (gnF V P D i (b.getD m 0) == gnF V P D i (b.getD i 0))
theorem heldB_zero (V : List (List Int)) (b : List Nat) (P : List Int) (D : Int) (i : Nat) : heldB V b P D i 0 = (gnF V P D i (b.getD i 0) == lsG V b P D) := by simp [heldB]
theorem heldB_succ (V : List (List Int)) (b : List Nat) (P : List Int) (D : Int) (i k : Nat) : heldB V b P D i (k + 1) = (heldB V b P D i k || ((k != i) && (gnF V P D i (b.getD k 0) == gnF V P D i (b.getD i 0)))) := by simp [heldB, List.range_succ, Bool.or_assoc]
theorem heldB_true {V : List (List Int)} {T : Int} {P : List Int} {D : Int} (k : RnOk V T (gF V (bst V)) P D) {i : Nat} (hi : i < V.length) : heldB V (bst V) P D i V.length = true := by
  obtain ⟨t, t1, t2, t3, t4⟩ := fair_x k
  obtain ⟨s, s1, s2, s3, _⟩ := k.sc
  have n1 := k.ok.n1
  have hts : (t : Int) = s := by
    have e : (t : Int) * D = s * D := by rw [t2, s2]
    exact Int.eq_of_mul_eq_mul_right (by have := k.le.d1; omega) e
  unfold heldB
  rw [Bool.or_eq_true, beq_iff_eq, List.any_eq_true]
  by_cases h0 : gF V (bst V) i = 0
  · left
    have h1 := t4 i hi
    rw [h0, Int.mul_zero, Int.zero_add, ← t3] at h1
    exact Int.eq_of_mul_eq_mul_left (by omega) h1
  · right
    have hg := gF_nn V (bst V) i
    obtain ⟨m, hm, hne, hl⟩ := gF_held k.hb hi (by omega)
    refine ⟨m, List.mem_range.2 hm, ?_⟩
    rw [Bool.and_eq_true, bne_iff_ne, beq_iff_eq]
    refine ⟨hne, ?_⟩
    have e1 : (t : Int) * gnF V P D i ((bst V).getD m 0) = V.length * vl V i ((bst V).getD m 0) - shp V.length (fpr V (bst V) (gF V (bst V))) T ((bst V).getD m 0) := by
      have := s3 _ (own_lt k.hb hm)
      unfold gnF
      rw [hts, Int.mul_sub, this]
      have : (s : Int) * (vl V i ((bst V).getD m 0) * D) = (s * D) * vl V i ((bst V).getD m 0) := by grind
      rw [this, s2]
    have e2 : (t : Int) * gnF V P D i ((bst V).getD i 0) = V.length * vl V i ((bst V).getD i 0) - shp V.length (fpr V (bst V) (gF V (bst V))) T ((bst V).getD i 0) := by
      have := s3 _ (own_lt k.hb hi)
      unfold gnF
      rw [hts, Int.mul_sub, this]
      have : (s : Int) * (vl V i ((bst V).getD i 0) * D) = (s * D) * vl V i ((bst V).getD i 0) := by grind
      rw [this, s2]
    refine Int.eq_of_mul_eq_mul_left (a := (t : Int)) (by omega) ?_
    rw [e1, e2]
    unfold shp
    rw [fpr_own k.hb _ hm, fpr_own k.hb _ hi]
    unfold lack at hl
    have e3 : vl V i ((bst V).getD i 0) = vo V (bst V) i := rfl
    rw [e3]
    have e4 : vl V i ((bst V).getD m 0) = vo V (bst V) m - gF V (bst V) m + gF V (bst V) i := by omega
    rw [e4]
    grind
/-- The gain of an agent lies within its stake. -/
theorem in_stake {V : List (List Int)} {R E : Int} {a : List Nat} {ps : List Int} (ok : Ok V) (le : Le14 V.length R a ps E) (ct : Cont (sc E V) a (el ps)) {i : Nat} (hi : i < V.length) :
    (V.length * vo V (bst V) i - highN V (bst V) R ((bst V).getD i 0)) * E ≤ gnF V ps E i (a.getD i 0) * V.length ∧ gnF V ps E i (a.getD i 0) * V.length ≤ (V.length * vo V (bst V) i - lowN V (bst V) R ((bst V).getD i 0)) * E := by
  have hb := bst_top ok
  obtain ⟨c1, c2⟩ := free_gain hb le ct
  obtain ⟨h1, h2⟩ := range_in le.d1 hb le.perm ct le.sum (own_lt hb hi)
  rw [c2 i hi]
  have e1 : (E * vo V (bst V) i - el ps ((bst V).getD i 0)) * V.length = E * (V.length * vo V (bst V) i) - V.length * el ps ((bst V).getD i 0) := by grind
  have e2 : (V.length * vo V (bst V) i - highN V (bst V) R ((bst V).getD i 0)) * E = E * (V.length * vo V (bst V) i) - E * highN V (bst V) R ((bst V).getD i 0) := by grind
  have e3 : (V.length * vo V (bst V) i - lowN V (bst V) R ((bst V).getD i 0)) * E = E * (V.length * vo V (bst V) i) - E * lowN V (bst V) R ((bst V).getD i 0) := by grind
  rw [e1, e2, e3]
  omega
/-- The stakes, times the number of agents. -/
def skL (V : List (List Int)) (R : Int) (i : Nat) : Int := V.length * vo V (bst V) i - highN V (bst V) R ((bst V).getD i 0)
def skH (V : List (List Int)) (R : Int) (i : Nat) : Int := V.length * vo V (bst V) i - lowN V (bst V) R ((bst V).getD i 0)
theorem sk_bd {V : List (List Int)} {R : Int} (ok : Ok V) (r0 : 0 ≤ R) (r1 : R ≤ 10000000) (i : Nat) : -2000000000 ≤ skL V R i ∧ skL V R i ≤ 2000000000 ∧ -2000000000 ≤ skH V R i ∧ skH V R i ≤ 2000000000 := by
  obtain ⟨l1, l2, l3, l4⟩ := ends_bd6 ok r0 r1 ((bst V).getD i 0)
  have n6 := ok.n6
  have hv : 0 ≤ vo V (bst V) i ∧ vo V (bst V) i ≤ 1000000 := ok.bd _ _
  have k1 : (V.length : Int) * vo V (bst V) i ≤ 6 * 1000000 := Int.mul_le_mul (by omega) hv.2 hv.1 (by omega)
  have k0 : 0 ≤ (V.length : Int) * vo V (bst V) i := Int.mul_nonneg (by omega) hv.1
  unfold skL skH
  omega
end As
theorem rent_stake (A : Option Addr) (cv : Nat) (V : List (List Int)) (T : Int) (i : Nat) (v : World) (hl : V.length ≤ maxLen) (hv : IsM v A V) (hT : As.rchk V T = 0) (hi : i < V.length) : Calls Try.prog 32 #[.agg #[.slice A V.length cv, .int .i64 T], .int .i64 i] v fun e w' => e = .returned (.tuple #[.agg #[.int .i64 (Rp.q (As.skL V T i) V.length).num, .int .i64 ((Rp.q (As.skL V T i) V.length).den : Int)], .agg #[.int .i64 (Rp.q (As.skH V T i) V.length).num, .int .i64 ((Rp.q (As.skH V T i) V.length).den : Int)], .int .i64 0]) ∧ Below v.heap.size v w' := by
  have c := rtStake_any A cv V T i v hl hv
  unfold skV As.skS at c
  rw [if_pos hT, if_pos (show (0 : Int) ≤ (i : Int) ∧ (i : Int) < V.length by omega)] at c
  exact c
theorem rcheck_q {a n : Int} (h1 : 1 ≤ n) (h2 : n ≤ 1000) (a0 : -1000000000000 ≤ a) (a1 : a ≤ 1000000000000) (w : World) :
    Calls Try.prog 36 #[.agg #[.int .i64 (Rp.q a n).num, .int .i64 ((Rp.q a n).den : Int)]] w fun e w' => e = .returned (.int .i64 0) ∧ Below w.heap.size w w' := by
  have ok := Rp.q_ok h1 (by omega) (show -1000000000000000000 ≤ a by omega) (by omega)
  have e : Rp.chk (Rp.q a n).num ((Rp.q a n).den : Int) = 0 := by unfold Rp.chk; rw [if_pos ok]
  obtain ⟨o1, o2, o3, o4, _⟩ := ok
  have c := rkCheck_any (Rp.q a n).num ((Rp.q a n).den : Int) w (by omega) (by omega) (by omega) (by omega)
  rw [e] at c
  exact c
theorem rmake_q {a n : Int} (h1 : 1 ≤ n) (h2 : n ≤ 1000) (a0 : -1000000000000 ≤ a) (a1 : a ≤ 1000000000000) (w : World) :
    Calls Try.prog 20 #[.int .i64 a, .int .i64 n] w fun e w' => e = .returned (.tuple #[.agg #[.int .i64 (Rp.q a n).num, .int .i64 ((Rp.q a n).den : Int)], .int .i64 0]) ∧ Below w.heap.size w w' := by
  have c := rMake_any a n (by omega) (by omega) (by omega) (by omega) w
  rw [Rp.makeS_q h1 (by omega) (by omega) (by omega)] at c
  exact c
end Go.Proofs.Ytncmffhoodfhjaa
