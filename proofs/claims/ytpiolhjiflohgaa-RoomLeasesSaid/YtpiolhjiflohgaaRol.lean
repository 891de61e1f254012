/- Mathematics of layer 14: the least denominator, bounds and sums of prices. -/
import Derived.Test.YtpiolhjiflohgaaRom
namespace Go.Proofs.Ytpiolhjiflohgaa.As
/-- Does a number divide all of them? -/
def dvs (den : Nat) (l : List Int) (d : Nat) : Prop := d ∣ den ∧ ∀ x ∈ l, (d : Int) ∣ x
instance (den : Nat) (l : List Int) (d : Nat) : Decidable (dvs den l d) := by unfold dvs; exact inferInstance
/-- The search from above. -/
def lws (den : Nat) (l : List Int) : Nat → Nat
  | 0 => 1
  | k + 1 => if 1 < k + 1 ∧ dvs den l (k + 1) then k + 1 else lws den l k
/-- The greatest common divisor. -/
def gcl (den : Nat) (l : List Int) : Nat := l.foldl (fun g x => Nat.gcd g x.natAbs) den
theorem dvd_abs {d : Nat} {x : Int} : (d : Int) ∣ x ↔ d ∣ x.natAbs := Int.ofNat_dvd_left
theorem gcl_dvs : ∀ (l : List Int) (den d : Nat), d ∣ gcl den l ↔ dvs den l d
  | [], den, d => by simp [gcl, dvs]
  | x :: l, den, d => by
    have ih := gcl_dvs l (Nat.gcd den x.natAbs) d
    have e : gcl den (x :: l) = gcl (Nat.gcd den x.natAbs) l := rfl
    rw [e, ih]
    unfold dvs
    rw [Nat.dvd_gcd_iff]
    constructor
    · rintro ⟨⟨h1, h2⟩, h3⟩
      refine ⟨h1, fun y hy => ?_⟩
      rcases List.mem_cons.1 hy with rfl | hy
      · exact dvd_abs.2 h2
      · exact h3 y hy
    · rintro ⟨h1, h2⟩
      exact ⟨⟨h1, dvd_abs.1 (h2 x (by simp))⟩, fun y hy => h2 y (by simp [hy])⟩
theorem gcl_pos {den : Nat} (h : 0 < den) (l : List Int) : 0 < gcl den l := by
  have h1 : gcl den l ∣ den := ((gcl_dvs l den _).1 (Nat.dvd_refl _)).1
  exact Nat.pos_of_dvd_of_pos h1 h
theorem gcl_le {den : Nat} (h : 0 < den) (l : List Int) : gcl den l ≤ den := Nat.le_of_dvd h ((gcl_dvs l den _).1 (Nat.dvd_refl _)).1
theorem lws_ge {den : Nat} {l : List Int} (h : 0 < den) : ∀ k, gcl den l ≤ k → lws den l k = gcl den l
  | 0, hk => by have := gcl_pos h l; omega
  | k + 1, hk => by
    have hself := (gcl_dvs l den _).1 (Nat.dvd_refl _)
    have hp := gcl_pos h l
    simp only [lws]
    by_cases hd : dvs den l (k + 1)
    · have h1 : k + 1 ∣ gcl den l := (gcl_dvs l den _).2 hd
      have h2 := Nat.le_of_dvd hp h1
      by_cases h3 : 1 < k + 1
      · rw [if_pos ⟨h3, hd⟩]; omega
      · rw [if_neg (fun h => h3 h.1)]
        have : k = 0 := by omega
        subst this
        simp only [lws]; omega
    · rw [if_neg (fun h => hd h.2)]
      refine lws_ge h k ?_
      rcases Nat.lt_or_ge (gcl den l) (k + 1) with h1 | h1
      · omega
      · have : gcl den l = k + 1 := by omega
        rw [this] at hself
        exact absurd hself hd
/-- The reference's search gives the greatest common divisor. -/
theorem lws_gcl {den : Nat} (h : 0 < den) (l : List Int) : lws den l den = gcl den l := lws_ge h den (gcl_le h l)
section
variable {V : List (List Int)} {b : List Nat}
theorem low_sum (V : List (List Int)) (b : List Nat) (R : Int) (j : Nat) : sm (fun k => lowN V b R j - V.length * lkm V b k j) (List.range V.length) = V.length * R := by
  rw [sm_sub, sm_const, sm_mul]
  unfold lowN
  rw [Int.mul_add]
  omega
theorem high_sum (V : List (List Int)) (b : List Nat) (R : Int) (j : Nat) : sm (fun k => highN V b R j + V.length * lkm V b j k) (List.range V.length) = V.length * R := by
  have e : sm (fun k => highN V b R j + V.length * lkm V b j k) (List.range V.length) = sm (fun k => highN V b R j - (-(V.length : Int)) * lkm V b j k) (List.range V.length) := sm_congr fun k _ => by rw [Int.neg_mul]; omega
  rw [e, sm_sub, sm_const, sm_mul]
  have e2 : sm (fun k => lkm V b j k) (List.range V.length) = sm (lkm V b j) (List.range V.length) := rfl
  unfold highN
  rw [e2, Int.mul_sub, Int.neg_mul]
  omega
theorem sm_bd {f : Nat → Int} {M : Int} : ∀ n : Nat, (∀ k, k < n → 0 ≤ f k ∧ f k ≤ M) → 0 ≤ sm f (List.range n) ∧ sm f (List.range n) ≤ n * M
  | 0, _ => by simp [sm]
  | n + 1, h => by
    have ih := sm_bd n fun k hk => h k (by omega)
    have h1 := h n (by omega)
    rw [List.range_succ, sm_append]
    simp only [sm]
    rw [show ((n + 1 : Nat) : Int) = n + 1 from rfl, Int.add_mul]
    omega
/-- The even prices lie within the bounds of a lease. -/
theorem evp_bd (hb : Top V b) (h0 : 0 < V.length) (hV : ∀ i j, 0 ≤ vl V i j ∧ vl V i j ≤ 1000000) {R : Int} (r0 : 0 ≤ R) (r1 : R ≤ 10000000) {j : Nat} (hj : j < V.length) :
    -(V.length * 1000000 : Int) ≤ evp V b R j ∧ evp V b R j ≤ V.length * 10000000 := by
  have hs := sm_bd (f := el (lp V b)) (M := 1000000) V.length fun k hk => ⟨lp_nn hb k, lp_bound hb h0 hV hk⟩
  have h1 := lp_nn hb j
  have h2 := lp_bound hb h0 hV hj
  have h3 : (V.length : Int) * 0 ≤ V.length * el (lp V b) j := Int.mul_le_mul_of_nonneg_left h1 (by omega)
  have h4 : (V.length : Int) * el (lp V b) j ≤ V.length * 1000000 := Int.mul_le_mul_of_nonneg_left h2 (by omega)
  unfold evp
  by_cases h5 : V.length = 1
  · obtain ⟨z, hz, hz0⟩ := lp_zero hb h0
    have e : z = j := by omega
    subst e
    rw [h5] at hs ⊢
    rw [hz0]
    have e1 : sm (el (lp V b)) (List.range 1) = el (lp V b) 0 := by simp [sm, List.range_succ]
    have e2 : z = 0 := by omega
    rw [e1, ← e2, hz0]
    omega
  · omega
theorem lkm_bd (hV : ∀ i j, 0 ≤ vl V i j ∧ vl V i j ≤ 1000000) (x y : Nat) : -(V.length * 1000000 : Int) ≤ lkm V b x y ∧ lkm V b x y ≤ V.length * 1000000 := lk_bd hV V.length _ x
theorem lp_lkm (hb : Top V b) {x y : Nat} (hx : x < V.length) (hy : y < V.length) : lkm V b x y ≤ el (lp V b) y - el (lp V b) x := by
  have h := lkm_le (D := 1) hb (by rw [sc_one]; exact lp_cont hb) hx hy
  omega
/-- Another rent moves the range, and the even prices, by the same. -/
theorem low_rent (V : List (List Int)) (b : List Nat) (R S : Int) (j : Nat) : lowN V b S j = lowN V b R j + (S - R) := by unfold lowN; omega
theorem high_rent (V : List (List Int)) (b : List Nat) (R S : Int) (j : Nat) : highN V b S j = highN V b R j + (S - R) := by unfold highN; omega
theorem evp_rent (V : List (List Int)) (b : List Nat) (R S : Int) (j : Nat) : evp V b S j = evp V b R j + (S - R) := by unfold evp; omega
end
end Go.Proofs.Ytpiolhjiflohgaa.As
