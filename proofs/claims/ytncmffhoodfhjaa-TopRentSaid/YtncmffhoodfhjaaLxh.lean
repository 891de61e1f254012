/- The fair and the calm lease of a valid flat: mathematics, calls. -/
import Derived.Test.YtncmffhoodfhjaaLxg
import Derived.Test.YtncmffhoodfhjaaLwq
namespace Go.Proofs.Ytncmffhoodfhjaa
open Go.RowKit
namespace As
/-- A lease from gains without envy, with the least denominator. -/
structure RnOk (V : List (List Int)) (T : Int) (g : Nat → Int) (P : List Int) (D : Int) : Prop where
  ok : Ok V
  hb : Top V (bst V)
  r0 : 0 ≤ T
  r1 : T ≤ 10000000
  le : Le14 V.length T (bst V) P D
  ct : Cont (sc D V) (bst V) (el P)
  sc : ∃ t : Nat, 1 ≤ t ∧ (t : Int) * D = V.length ∧ (∀ j, j < V.length → (t : Int) * el P j = shp V.length (fpr V (bst V) g) T j) ∧ ∀ i, i < V.length → (t : Int) * (D * vo V (bst V) i - el P ((bst V).getD i 0)) = V.length * g i + (sm (vo V (bst V)) (List.range V.length) - T - sm g (List.range V.length))
theorem rn_ok {V : List (List Int)} {T : Int} {g : Nat → Int} (ok : Ok V) (hg : GC V (bst V) g) (r0 : 0 ≤ T) (r1 : T ≤ 10000000) : RnOk V T g (rdp V.length (shp V.length (fpr V (bst V) g) T)) (rdd V.length (shp V.length (fpr V (bst V) g) T)) := by
  have hb := bst_top ok
  have hc : Cont V (bst V) (fpr V (bst V) g) := gc_cont hb hg
  obtain ⟨h1, h2, t, t1, t2, t3⟩ := rd_ok (p := shp V.length (fpr V (bst V) g) T) ok.n1 ok.n6 hb.perm (shp_cont hc T) (shp_sum _ _ T) (fun j hj => shp_bd ok hb hc r0 r1 hj)
  refine ⟨ok, hb, r0, r1, h1, h2, t, t1, t2, t3, fun i hi => ?_⟩
  rw [Int.mul_sub, ← Int.mul_assoc, t2, t3 _ (own_lt hb hi)]
  exact fpr_gain hb g T hi
theorem fr_ok {V : List (List Int)} {T : Int} (hT : rchk V T = 0) : RnOk V T (gF V (bst V)) (frP V T) (frD V T) := by
  rcases rchk_two V T with ⟨_, hc, r0, r1⟩ | ⟨_, h2⟩
  · have ok := chk_ok hc
    have := rn_ok (T := T) ok (gF_gc (bst_top ok)) r0 r1
    unfold frP frD
    rw [if_pos hT, if_pos hT]
    exact this
  · exact absurd hT h2
theorem cl_ok {V : List (List Int)} {T : Int} (hT : rchk V T = 0) : RnOk V T (gC V (bst V)) (clP V T) (clD V T) := by
  rcases rchk_two V T with ⟨_, hc, r0, r1⟩ | ⟨_, h2⟩
  · have ok := chk_ok hc
    have := rn_ok (T := T) ok (gC_gc (bst_top ok)) r0 r1
    unfold clP clD
    rw [if_pos hT, if_pos hT]
    exact this
  · exact absurd hT h2
section
variable {V : List (List Int)} {T : Int} {g : Nat → Int} {P : List Int} {D : Int}
theorem RnOk.vld (h : RnOk V T g P D) (hT : rchk V T = 0) : As.vld V T (al (bst V)) P D = 0 := by
  unfold As.vld
  rw [if_pos hT, if_pos (leB_iff.2 ⟨_, rfl, h.le⟩)]
theorem RnOk.free (h : RnOk V T g P D) (hT : rchk V T = 0) : enS V T (al (bst V)) P D = [] := by
  rw [enS_yes (h.vld hT)]
  exact (envl_nil h.hb.perm).2 h.ct
theorem RnOk.d6 (h : RnOk V T g P D) : 1 ≤ D ∧ D ≤ 6 := by
  obtain ⟨t, t1, t2, _⟩ := h.sc
  have n6 := h.ok.n6
  have d1 := h.le.d1
  refine ⟨d1, ?_⟩
  have : 1 * D ≤ t * D := Int.mul_le_mul_of_nonneg_right (by omega) (by omega)
  omega
/-- Another rent changes all prices by the same. -/
theorem RnOk.rent {S : Int} {Q : List Int} {E : Int} (h : RnOk V T g P D) (k : RnOk V S g Q E) {j : Nat} (hj : j < V.length) : (el Q j * D - el P j * E) * V.length = (S - T) * D * E := by
  obtain ⟨t, t1, t2, t3, _⟩ := h.sc
  obtain ⟨s, s1, s2, s3, _⟩ := k.sc
  have e1 := t3 j hj
  have e2 := s3 j hj
  have e3 : shp V.length (fpr V (bst V) g) S j = shp V.length (fpr V (bst V) g) T j + (S - T) := by unfold shp; omega
  have key : ((t : Int) * s) * ((el Q j * D - el P j * E) * V.length) = ((t : Int) * s) * ((S - T) * D * E) := by
    have l1 : ((t : Int) * s) * ((el Q j * D - el P j * E) * V.length) = ((s * el Q j) * (t * D) - (t * el P j) * (s * E)) * V.length := by grind
    have l2 : ((t : Int) * s) * ((S - T) * D * E) = (S - T) * (t * D) * (s * E) := by grind
    rw [l1, l2, e1, e2, t2, s2, e3]
    grind
  exact Int.eq_of_mul_eq_mul_left (by
    have : (0 : Int) < t * s := Int.mul_pos (by omega) (by omega)
    omega) key
end
end As
theorem rent_fair (A : Option Addr) (cv : Nat) (V : List (List Int)) (T : Int) (v : World) (hl : V.length ≤ maxLen) (hv : IsM v A V) (hT : As.rchk V T = 0) : Calls Try.prog 28 #[.agg #[.slice A V.length cv, .int .i64 T]] v fun e w' => ∃ X c Y d, e = .returned (.tuple #[.agg #[.slice X V.length c, .slice Y V.length d, .int .i64 (As.frD V T)], .int .i64 0]) ∧ IsI w' X (As.al (As.bst V)) ∧ IsI w' Y (As.frP V T) ∧ Below v.heap.size v w' := by
  have c := rtFair_any A cv V T v hl hv
  have k := As.fr_ok hT
  have e1 : As.evA V T = As.bst V := by unfold As.evA; rw [if_pos hT]
  unfold LeQ at c
  rw [e1, k.le.len, k.hb.len, hT] at c
  exact c
theorem rent_calm (A : Option Addr) (cv : Nat) (V : List (List Int)) (T : Int) (v : World) (hl : V.length ≤ maxLen) (hv : IsM v A V) (hT : As.rchk V T = 0) : Calls Try.prog 29 #[.agg #[.slice A V.length cv, .int .i64 T]] v fun e w' => ∃ X c Y d, e = .returned (.tuple #[.agg #[.slice X V.length c, .slice Y V.length d, .int .i64 (As.clD V T)], .int .i64 0]) ∧ IsI w' X (As.al (As.bst V)) ∧ IsI w' Y (As.clP V T) ∧ Below v.heap.size v w' := by
  have c := rtCalm_any A cv V T v hl hv
  have k := As.cl_ok hT
  have e1 : As.evA V T = As.bst V := by unfold As.evA; rw [if_pos hT]
  unfold LeQ at c
  rw [e1, k.le.len, k.hb.len, hT] at c
  exact c
theorem rent_vld (A : Option Addr) (cv : Nat) (V : List (List Int)) (T : Int) (g : Nat → Int) (P : List Int) (D : Int) (X : Option Addr) (cx : Nat) (Y : Option Addr) (d : Nat) (v : World) (hl : V.length ≤ maxLen) (hv : IsM v A V) (hT : As.rchk V T = 0) (k : As.RnOk V T g P D) (hX : IsI v X (As.al (As.bst V))) (hY : IsI v Y P) : Calls Try.prog 18 #[.agg #[.slice A V.length cv, .int .i64 T], .agg #[.slice X V.length cx, .slice Y V.length d, .int .i64 D]] v fun e w' => e = .returned (.int .i64 0) ∧ Below v.heap.size v w' := by
  have hlb : (As.al (As.bst V)).length = V.length := by rw [As.al_len]; exact k.hb.len
  have c := r14Valid_any A cv V T X cx (As.al (As.bst V)) Y d P D v hl hv (by rw [hlb]; exact hl) hX hY
  rw [k.vld hT, hlb, k.le.len] at c
  exact c
end Go.Proofs.Ytncmffhoodfhjaa
