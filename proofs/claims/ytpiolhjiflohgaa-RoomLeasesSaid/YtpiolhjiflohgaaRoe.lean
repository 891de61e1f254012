/- Mathematics of layer 14: which leases are valid, gains, envies, the even lease. -/
import Derived.Test.YtpiolhjiflohgaaRol
import Derived.Test.YtpiolhjiflohgaaAsl
namespace Go.Proofs.Ytpiolhjiflohgaa.As
/-- What Check of a flat returns. -/
def rchk (V : List (List Int)) (R : Int) : Int := if chk V = 0 then if 0 ≤ R ∧ R ≤ 10000000 then 0 else 8 else chk V
theorem rchk_cases (V : List (List Int)) (R : Int) : (rchk V R = 0 ∧ chk V = 0 ∧ 0 ≤ R ∧ R ≤ 10000000) ∨ (rchk V R = 8 ∧ chk V = 0 ∧ ¬ (0 ≤ R ∧ R ≤ 10000000)) ∨ (rchk V R = chk V ∧ (chk V != 0) = true ∧ chk V ≠ 0) := by
  unfold rchk
  rcases chk_cases V with h | ⟨h1, h2⟩
  · by_cases hR : 0 ≤ R ∧ R ≤ 10000000
    · exact .inl ⟨by rw [if_pos h, if_pos hR], h, hR⟩
    · exact .inr (.inl ⟨by rw [if_pos h, if_neg hR], h, hR⟩)
  · exact .inr (.inr ⟨by rw [if_neg h2], h1, h2⟩)
/-- A price in bounds. -/
def prB (D x : Int) : Bool := decide (-10000000 * D ≤ x) && decide (x ≤ 10000000 * D)
/-- A lease of n rooms for a rent. -/
def leB (n : Nat) (R : Int) (xs ps : List Int) (D : Int) : Bool := isA xs n && decide (ps.length = n) && decide (1 ≤ D) && decide (D ≤ 60) && (List.range n).all (fun j => prB D (el ps j)) && decide (sm (el ps) (List.range n) = D * R)
structure Le14 (n : Nat) (R : Int) (a : List Nat) (ps : List Int) (D : Int) : Prop where
  perm : a.Perm (List.range n)
  len : ps.length = n
  d1 : 1 ≤ D
  d60 : D ≤ 60
  pb : ∀ j, j < n → -10000000 * D ≤ el ps j ∧ el ps j ≤ 10000000 * D
  sum : sm (el ps) (List.range n) = D * R
theorem leB_iff {n : Nat} {R : Int} {xs ps : List Int} {D : Int} : leB n R xs ps D = true ↔ ∃ a, xs = al a ∧ Le14 n R a ps D := by
  unfold leB prB
  simp only [Bool.and_eq_true, decide_eq_true_eq, List.all_eq_true, List.mem_range]
  constructor
  · rintro ⟨⟨⟨⟨⟨h1, h2⟩, h3⟩, h4⟩, h5⟩, h6⟩
    obtain ⟨a, ha, hp⟩ := isA_perm h1
    exact ⟨a, ha, hp, h2, h3, h4, h5, h6⟩
  · rintro ⟨a, rfl, h⟩
    exact ⟨⟨⟨⟨⟨perm_isA h.perm, h.len⟩, h.d1⟩, h.d60⟩, h.pb⟩, h.sum⟩
/-- What Valid returns. -/
def vld (V : List (List Int)) (R : Int) (xs ps : List Int) (D : Int) : Int := if rchk V R = 0 then if leB V.length R xs ps D = true then 0 else 8 else rchk V R
theorem vld_zero {V : List (List Int)} {R : Int} {xs ps : List Int} {D : Int} (h : vld V R xs ps D = 0) : Ok V ∧ 0 ≤ R ∧ R ≤ 10000000 ∧ ∃ a, xs = al a ∧ Le14 V.length R a ps D := by
  unfold vld at h
  rcases rchk_cases V R with ⟨h1, h2, h3⟩ | ⟨h1, _⟩ | ⟨h1, _, h3⟩
  · rw [if_pos h1] at h
    by_cases hl : leB V.length R xs ps D = true
    · exact ⟨chk_ok h2, h3.1, h3.2, leB_iff.1 hl⟩
    · rw [if_neg hl] at h; omega
  · rw [if_neg (by omega), h1] at h; omega
  · rw [if_neg (by omega), h1] at h; omega
/-- What an agent would gain with a room, times the denominator. -/
def gnF (V : List (List Int)) (ps : List Int) (D : Int) (i j : Nat) : Int := vl V i j * D - el ps j
theorem gnF_bd {V : List (List Int)} (ok : Ok V) {R : Int} {a : List Nat} {ps : List Int} {D : Int} (h : Le14 V.length R a ps D) (i : Nat) {j : Nat} (hj : j < V.length) : -600000000 ≤ gnF V ps D i j ∧ gnF V ps D i j ≤ 660000000 := by
  have h1 := h.pb j hj
  have h2 := ok.bd i j
  have h3 := h.d1
  have h4 := h.d60
  have h5 : 0 * D ≤ vl V i j * D := Int.mul_le_mul_of_nonneg_right h2.1 (by omega)
  have h6 : vl V i j * D ≤ 1000000 * D := Int.mul_le_mul_of_nonneg_right h2.2 (by omega)
  unfold gnF; omega
/-- The gains. -/
def gnl (V : List (List Int)) (a : List Nat) (ps : List Int) (D : Int) (k : Nat) : List Int := (List.range k).map fun i => gnF V ps D i (a.getD i 0)
theorem gnl_succ (V : List (List Int)) (a : List Nat) (ps : List Int) (D : Int) (k : Nat) : gnl V a ps D (k + 1) = gnl V a ps D k ++ [gnF V ps D k (a.getD k 0)] := by simp [gnl, List.range_succ]
/-- Does i envy k? -/
def env (V : List (List Int)) (a : List Nat) (ps : List Int) (D : Int) (i k : Nat) : Bool := decide (gnF V ps D i (a.getD i 0) < gnF V ps D i (a.getD k 0))
/-- Whom i envies among the first m. -/
def env1 (V : List (List Int)) (a : List Nat) (ps : List Int) (D : Int) (i m : Nat) : List (Nat × Nat) := ((List.range m).filter (env V a ps D i)).map fun k => (i, k)
def envl (V : List (List Int)) (a : List Nat) (ps : List Int) (D : Int) (k : Nat) : List (Nat × Nat) := (List.range k).flatMap fun i => env1 V a ps D i V.length
theorem env1_succ (V : List (List Int)) (a : List Nat) (ps : List Int) (D : Int) (i m : Nat) : env1 V a ps D i (m + 1) = env1 V a ps D i m ++ if env V a ps D i m = true then [(i, m)] else [] := by
  unfold env1
  rw [List.range_succ, List.filter_append, List.map_append]
  congr 1
  by_cases h : env V a ps D i m = true
  · simp [h]
  · simp [h]
theorem envl_succ (V : List (List Int)) (a : List Nat) (ps : List Int) (D : Int) (k : Nat) : envl V a ps D (k + 1) = envl V a ps D k ++ env1 V a ps D k V.length := by simp [envl, List.range_succ]
theorem envl_nil {V : List (List Int)} {a : List Nat} {ps : List Int} {D : Int} (ha : a.Perm (List.range V.length)) : envl V a ps D V.length = [] ↔ Cont (sc D V) a (el ps) := by
  have la : a.length = V.length := by simpa using ha.length_eq
  unfold envl
  rw [List.flatMap_eq_nil_iff]
  have hi1 : ∀ i, env1 V a ps D i V.length = [] ↔ ∀ k, k < V.length → gnF V ps D i (a.getD k 0) ≤ gnF V ps D i (a.getD i 0) := fun i => by
    unfold env1 env
    rw [List.map_eq_nil_iff, List.filter_eq_nil_iff]
    simp only [List.mem_range, decide_eq_true_eq, Int.not_lt]
  have hg : ∀ i j, D * vl V i j - el ps j = gnF V ps D i j := fun i j => by unfold gnF; rw [Int.mul_comm]
  constructor
  · intro h i j hi hj
    rw [sc_len] at hi hj
    have hja : j ∈ a := ha.mem_iff.2 (List.mem_range.2 hj)
    have hk := List.idxOf_lt_length_iff.2 hja
    have e : a.getD (a.idxOf j) 0 = j := by rw [getD_lt hk]; exact List.getElem_idxOf hk
    have := (hi1 i).1 (h i (List.mem_range.2 hi)) (a.idxOf j) (by omega)
    rw [e] at this
    rw [sc_vl, sc_vl, hg, hg]
    exact this
  · intro h i hi
    refine (hi1 i).2 fun k hk => ?_
    have hka := List.mem_range.1 (ha.mem_iff.1 (getD_mem (a := a) (i := k) (by omega)))
    have := h i (a.getD k 0) (by rw [sc_len]; exact List.mem_range.1 hi) (by rw [sc_len]; exact hka)
    rw [sc_vl, sc_vl, hg, hg] at this
    exact this
/-- Prices with the least denominator. -/
def rdp (n : Nat) (p : Nat → Int) : List Int := (List.range n).map fun j => p j / (gcl n ((List.range n).map p) : Nat)
def rdd (n : Nat) (p : Nat → Int) : Int := ((n / gcl n ((List.range n).map p) : Nat) : Int)
/-- Reduced prices without envy are a lease without envy. -/
theorem rd_ok {V : List (List Int)} {b : List Nat} {R : Int} {p : Nat → Int} (n1 : 1 ≤ V.length) (n6 : V.length ≤ 6) (hb : b.Perm (List.range V.length)) (hc : Cont (sc V.length V) b p) (hs : sm p (List.range V.length) = V.length * R)
    (hbd : ∀ j, j < V.length → -10000000 * (V.length : Int) ≤ p j ∧ p j ≤ 10000000 * (V.length : Int)) : Le14 V.length R b (rdp V.length p) (rdd V.length p) ∧ Cont (sc (rdd V.length p) V) b (el (rdp V.length p)) ∧
      ∃ g : Nat, 1 ≤ g ∧ (g : Int) * rdd V.length p = V.length ∧ ∀ j, j < V.length → (g : Int) * el (rdp V.length p) j = p j := by
  obtain ⟨k1, k2⟩ := (gcl_dvs ((List.range V.length).map p) V.length _).1 (Nat.dvd_refl _)
  have g1 := gcl_pos (den := V.length) (by omega) ((List.range V.length).map p)
  unfold rdp rdd
  generalize gcl V.length ((List.range V.length).map p) = g at *
  have e1 : ((g : Nat) : Int) * ((V.length / g : Nat) : Int) = V.length := by
    rw [← Int.natCast_mul, Nat.mul_div_cancel' k1]
  have e2 : ∀ j, j < V.length → (g : Int) * el ((List.range V.length).map fun j => p j / (g : Int)) j = p j := fun j hj => by
    have : el ((List.range V.length).map fun j => p j / (g : Int)) j = p j / (g : Int) := by unfold el; simp [hj]
    rw [this]
    exact Int.mul_ediv_cancel' (k2 (p j) (List.mem_map.2 ⟨j, List.mem_range.2 hj, rfl⟩))
  have hd1 : 1 ≤ ((V.length / g : Nat) : Int) := by
    have := Nat.div_pos (Nat.le_of_dvd (by omega) k1) g1
    omega
  have hd6 : ((V.length / g : Nat) : Int) ≤ V.length := by
    have := Nat.div_le_self V.length g
    omega
  have hlen : ((List.range V.length).map fun j => p j / (g : Int)).length = V.length := by simp
  generalize ((List.range V.length).map fun j => p j / (g : Int)) = ps at *
  generalize ((V.length / g : Nat) : Int) = D at *
  have hgp : (0 : Int) < g := by omega
  refine ⟨⟨hb, hlen, hd1, by omega, fun j hj => ?_, ?_⟩, fun i j hi hj => ?_, g, by omega, e1, e2⟩
  · have h1 := hbd j hj
    have h2 := e2 j hj
    have e3 : 10000000 * (V.length : Int) = (g : Int) * (10000000 * D) := by rw [← e1]; rw [← Int.mul_assoc, ← Int.mul_assoc, Int.mul_comm (g : Int) 10000000]
    have e4 : (g : Int) * (-(10000000 * D)) = -((g : Int) * (10000000 * D)) := Int.mul_neg _ _
    constructor
    · have h3 : (g : Int) * (-(10000000 * D)) ≤ (g : Int) * el ps j := by rw [h2, e4]; omega
      have := Int.le_of_mul_le_mul_left h3 hgp
      omega
    · have h3 : (g : Int) * el ps j ≤ (g : Int) * (10000000 * D) := by rw [h2]; omega
      exact Int.le_of_mul_le_mul_left h3 hgp
  · have h1 : (g : Int) * sm (el ps) (List.range V.length) = (g : Int) * (D * R) := by
      rw [← sm_mul, ← Int.mul_assoc, e1, ← hs]
      exact sm_congr fun j hj => e2 j (List.mem_range.1 hj)
    exact Int.eq_of_mul_eq_mul_left (by omega) h1
  · rw [sc_len] at hi hj
    have lb : b.length = V.length := by simpa using hb.length_eq
    have hbi := List.mem_range.1 (hb.mem_iff.1 (getD_mem (a := b) (i := i) (by omega)))
    have h1 := hc i j (by rw [sc_len]; exact hi) (by rw [sc_len]; exact hj)
    rw [sc_vl, sc_vl, ← e1, ← e2 j hj, ← e2 _ hbi, Int.mul_assoc, Int.mul_assoc, ← Int.mul_sub, ← Int.mul_sub] at h1
    have := Int.le_of_mul_le_mul_left h1 hgp
    rw [sc_vl, sc_vl]
    exact this
/-- The even lease is a lease without envy. -/
theorem even_ok {V : List (List Int)} {b : List Nat} {R : Int} (ok : Ok V) (hb : Top V b) (r0 : 0 ≤ R) (r1 : R ≤ 10000000) : Le14 V.length R b (rdp V.length (evp V b R)) (rdd V.length (evp V b R)) ∧ Cont (sc (rdd V.length (evp V b R)) V) b (el (rdp V.length (evp V b R))) := by
  have n1 := ok.n1
  have h := rd_ok n1 ok.n6 hb.perm (evp_cont hb R) (evp_sum V b R) (fun j hj => by
    have := evp_bd hb (by omega) ok.bd r0 r1 hj
    omega)
  exact ⟨h.1, h.2.1⟩
end Go.Proofs.Ytpiolhjiflohgaa.As
