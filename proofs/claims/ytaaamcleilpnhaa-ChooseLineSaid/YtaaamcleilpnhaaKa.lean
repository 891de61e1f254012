/- What a cake is worth between two whole numbers: plain mathematics. Contracts of Make: package ratio's, and the reference's. Cut and choose: the cutter's mark and the chooser's value are never out of range. Plain mathematics. A region that draws its order, reads and calls first, and then stores into what it has read. Package choose: whole, other, half. Package choose: afterCut. Package choose: afterChoice. -/
import Derived.Test.YtaaamcleilpnhaaVal
import Derived.Test.YtaaamcleilpnhaaPartm
import Derived.Test.YtaaamcleilpnhaaRat
import Derived.Test.YtaaamcleilpnhaaTimes
import Derived.Test.YtaaamcleilpnhaaAskv
import Derived.Test.YtaaamcleilpnhaaTree
import Derived.StillTail
import Derived.Test.YtaaamcleilpnhaaAskop
import Derived.Test.YtaaamcleilpnhaaSd
namespace Go.Proofs.Ytaaamcleilpnhaa
namespace Ck
theorem q_of (n : Int) : Rp.q n 1 = ((n : Int) : Rat) := Rp.q_one n
theorem ofQ_int {n : Int} (h0 : -1000000000000000000 ≤ n) (h1 : n ≤ 1000000000000000000) : Rp.ofQ ((n : Int) : Rat) = (n, 1, 0) := by
  rw [← Rp.q_one]
  exact Rp.ofQ_q (Rp.Ok_one h0 h1)
theorem mxS_int (a b : Int) : mxS a 1 b 1 = (max a b, 1) := by
  unfold mxS
  have hq : Rp.q a 1 < Rp.q b 1 ↔ a < b := by rw [q_of, q_of, Rat.intCast_lt_intCast]
  by_cases h : a < b
  · rw [if_pos (hq.2 h), Int.max_def, if_pos (by omega)]
  · rw [if_neg (fun g => h (hq.1 g)), Int.max_def]
    split
    · rw [show a = b by omega]
    · rfl
theorem mnS_int (a b : Int) : mnS a 1 b 1 = (min a b, 1) := by
  unfold mnS
  have hq : Rp.q b 1 < Rp.q a 1 ↔ b < a := by rw [q_of, q_of, Rat.intCast_lt_intCast]
  by_cases h : b < a
  · rw [if_pos (hq.2 h), Int.min_def, if_neg (by omega)]
  · rw [if_neg (fun g => h (hq.1 g)), Int.min_def, if_pos (by omega)]
theorem wthS_int {a b k : Int} (a0 : 0 ≤ a) (a1 : a ≤ 1000) (b0 : 0 ≤ b) (b1 : b ≤ 1000) (k0 : 0 ≤ k) (k1 : k ≤ 12) : wthS a 1 b 1 k = ((b - a) * k, 1, 0) := by
  have hm : -12000 ≤ (b - a) * k ∧ (b - a) * k ≤ 12000 := by
    obtain ⟨x, hx⟩ : ∃ x, b - a = x := ⟨_, rfl⟩
    rw [hx]
    have h1 : -1000 ≤ x := by omega
    have h2 : x ≤ 1000 := by omega
    rcases (show k = 0 ∨ k = 1 ∨ k = 2 ∨ k = 3 ∨ k = 4 ∨ k = 5 ∨ k = 6 ∨ k = 7 ∨ k = 8 ∨ k = 9 ∨ k = 10 ∨ k = 11 ∨ k = 12 by omega) with h | h | h | h | h | h | h | h | h | h | h | h | h <;> subst h <;> omega
  have hs : Rp.subS b 1 a 1 = (b - a, 1, 0) := by
    rw [Rp.subS_ok (Rp.Ok_one (by omega) (by omega)) (Rp.Ok_one (by omega) (by omega)), q_of, q_of, ← Rat.intCast_sub]
    exact ofQ_int (by omega) (by omega)
  unfold wthS
  rw [hs]
  show (if (0 : Int) = 0 then Rp.mulS (b - a) 1 k 1 else _) = _
  rw [if_pos rfl, Rp.mulS_ok (Rp.Ok_one (by omega) (by omega)) (Rp.Ok_one (by omega) (by omega)), q_of, q_of, ← Rat.intCast_mul]
  exact ofQ_int (by omega) (by omega)
/-- What the first intervals have between two whole numbers. -/
def vint (c d : List Int) (a b : Int) : Nat → Int
  | 0 => 0
  | k + 1 => vint c d a b k + (if max a (at_ c k) < min b (at_ c (k + 1)) then (min b (at_ c (k + 1)) - max a (at_ c k)) * at_ d k else 0)
theorem vint_bd {len : Int} {c d : List Int} (hG : Good len c d) {a b : Int} (h0 : 0 ≤ a) (h1 : a ≤ b) (h2 : b ≤ len) : ∀ k, k ≤ d.length → 0 ≤ vint c d a b k ∧ vint c d a b k ≤ 12000 * k
  | 0, _ => ⟨Int.le_refl _, Int.le_refl _⟩
  | k + 1, hk => by
    have ih := vint_bd hG h0 h1 h2 k (by omega)
    have hst := hG.step k (by omega)
    have r1 := hG.range k (by omega)
    have r2 := hG.range (k + 1) (by omega)
    unfold vint
    split
    · rename_i hlt
      have hx : 0 ≤ min b (at_ c (k + 1)) - max a (at_ c k) ∧ min b (at_ c (k + 1)) - max a (at_ c k) ≤ 1000 := by omega
      generalize min b (at_ c (k + 1)) - max a (at_ c k) = x at *
      generalize at_ d k = y at *
      have hy : 0 ≤ x * y ∧ x * y ≤ 12000 := by
        rcases (show y = 0 ∨ y = 1 ∨ y = 2 ∨ y = 3 ∨ y = 4 ∨ y = 5 ∨ y = 6 ∨ y = 7 ∨ y = 8 ∨ y = 9 ∨ y = 10 ∨ y = 11 ∨ y = 12 by omega) with h | h | h | h | h | h | h | h | h | h | h | h | h <;> subst h <;> omega
      omega
    · omega
/-- The sum between two whole numbers is a whole number, and there is a ratio of it. -/
theorem vgo_int {len : Int} {c d : List Int} (hG : Good len c d) {a b : Int} (h0 : 0 ≤ a) (h1 : a ≤ b) (h2 : b ≤ len) : ∀ k, k ≤ d.length → vgo c d a 1 b 1 k = (vint c d a b k, 1, 0)
  | 0, _ => rfl
  | k + 1, hk => by
    have ih := vgo_int hG h0 h1 h2 k (by omega)
    have bd := vint_bd hG h0 h1 h2 k (by omega)
    have bd' := vint_bd hG h0 h1 h2 (k + 1) hk
    have hst := hG.step k (by omega)
    have r1 := hG.range k (by omega)
    have r2 := hG.range (k + 1) (by omega)
    have hl1 := hG.len1
    have hsh := hG.shape
    unfold vgo vint
    rw [ih, mxS_int, mnS_int]
    dsimp only
    rw [if_neg (by simp)]
    have hq : Rp.q (max a (at_ c k)) 1 < Rp.q (min b (at_ c (k + 1))) 1 ↔ max a (at_ c k) < min b (at_ c (k + 1)) := by rw [q_of, q_of, Rat.intCast_lt_intCast]
    unfold vint at bd'
    by_cases hlt : max a (at_ c k) < min b (at_ c (k + 1))
    · rw [if_pos hlt] at bd' ⊢
      rw [wthS_int (by omega) (by omega) (by omega) (by omega) hst.2.1 hst.2.2]
      dsimp only
      by_cases hz : at_ d k = 0
      · rw [if_pos (.inl hz), hz]
        simp
      · rw [if_neg (by
          rintro (e | e)
          · exact hz e
          · exact e (hq.2 hlt)), if_neg (by simp), Rp.addS_ok (Rp.Ok_one (by omega) (by omega)) (Rp.Ok_one (by omega) (by omega)), q_of, q_of, ← Rat.intCast_add]
        exact ofQ_int (by omega) (by omega)
    · rw [if_neg hlt, if_pos (.inr (fun g => hlt (hq.1 g)))]
      simp
end Ck
end Go.Proofs.Ytaaamcleilpnhaa
/- The total of a cake: the value of all of it; at least 1. Plain mathematics. -/
namespace Go.Proofs.Ytaaamcleilpnhaa
namespace Ck
theorem vint_whole {len : Int} {c d : List Int} (hG : Good len c d) : ∀ k, k ≤ d.length → vint c d 0 len k = tot c d k
  | 0, _ => rfl
  | k + 1, hk => by
    have ih := vint_whole hG k (by omega)
    have hst := (hG.step k (by omega)).1
    have r1 := hG.range k (by omega)
    have r2 := hG.mono (k + 1) d.length (by omega) (Nat.le_refl _)
    have r3 := hG.last
    unfold vint tot
    rw [ih, if_pos (by omega), show min len (at_ c (k + 1)) = at_ c (k + 1) by omega, show max 0 (at_ c k) = at_ c k by omega, Int.mul_comm]
theorem tot_mono {len : Int} {c d : List Int} (hG : Good len c d) (k : Nat) : ∀ t, k + t ≤ d.length → tot c d k ≤ tot c d (k + t)
  | 0, _ => Int.le_refl _
  | t + 1, ht => by
    have ih := tot_mono hG k t (by omega)
    have hst := hG.step (k + t) (by omega)
    show _ ≤ tot c d (k + t) + at_ d (k + t) * (at_ c (k + t + 1) - at_ c (k + t))
    have := Int.mul_nonneg hst.2.1 (show 0 ≤ at_ c (k + t + 1) - at_ c (k + t) by omega)
    omega
theorem tot_pos {len : Int} {c d : List Int} (hG : Good len c d) : 1 ≤ tot c d d.length := by
  have hs := hG.some_
  unfold wanted at hs
  rw [List.any_eq_true] at hs
  obtain ⟨x, hx, hp⟩ := hs
  obtain ⟨j, hj, rfl⟩ := List.mem_iff_getElem.1 hx
  rw [decide_eq_true_iff] at hp
  have hst := hG.step j hj
  have h1 : 1 ≤ at_ d j := by rw [at_lt hj]; omega
  have h2 := tot_mono hG (j + 1) (d.length - (j + 1)) (by omega)
  rw [show j + 1 + (d.length - (j + 1)) = d.length by omega] at h2
  have h3 := (tot_bd hG j (by omega)).1
  have h4 : tot c d (j + 1) = tot c d j + at_ d j * (at_ c (j + 1) - at_ c j) := rfl
  have h5 := Int.mul_le_mul h1 (show 1 ≤ at_ c (j + 1) - at_ c j by omega) (by decide) (by omega)
  omega
end Ck
end Go.Proofs.Ytaaamcleilpnhaa
/- The total of a part is what the cake is worth there: plain mathematics. -/
namespace Go.Proofs.Ytaaamcleilpnhaa
namespace Ck
theorem tot_congr {c d c' d' : List Int} : ∀ k, (∀ j, j ≤ k → at_ c j = at_ c' j) → (∀ j, j < k → at_ d j = at_ d' j) → tot c d k = tot c' d' k
  | 0, _, _ => rfl
  | k + 1, h1, h2 => by
    unfold tot
    rw [tot_congr k (fun j hj => h1 j (by omega)) (fun j hj => h2 j (by omega)), h1 k (by omega), h1 (k + 1) (by omega), h2 k (by omega)]
theorem pCD_len (c d : List Int) (a b : Int) : ∀ k, (pC c a b k).length = (pD c d a b k).length + 1
  | 0 => rfl
  | k + 1 => by
    have ih := pCD_len c d a b k
    unfold pC pD
    split
    · rw [List.length_append, List.length_append, ih]
      rfl
    · exact ih
/-- The last cut of a part, of the first intervals. -/
theorem pC_last {len : Int} {c d : List Int} (hG : Good len c d) {a b : Int} (h0 : 0 ≤ a) (h1 : a < b) : ∀ k, k ≤ d.length → at_ (pC c a b k) (pD c d a b k).length = max 0 (min b (at_ c k) - a)
  | 0, _ => by
    show (0 : Int) = _
    rw [hG.first]
    omega
  | k + 1, hk => by
    have ih := pC_last hG h0 h1 k (by omega)
    have hl := pCD_len c d a b k
    have hst := (hG.step k (by omega)).1
    rcases h : inside c a b k with _ | _
    · rw [pC_no h, pD_no h, ih]
      unfold inside at h
      rw [Bool.and_eq_false_iff, decide_eq_false_iff_not, decide_eq_false_iff_not] at h
      omega
    · rw [pC_yes h, pD_yes h, List.length_append]
      unfold inside at h
      rw [Bool.and_eq_true_iff, decide_eq_true_iff, decide_eq_true_iff] at h
      have e := at_end (l := pC c a b k) (x := min b (at_ c (k + 1)) - a)
      rw [hl] at e
      show at_ (pC c a b k ++ [min b (at_ c (k + 1)) - a]) ((pD c d a b k).length + 1) = _
      rw [e]
      omega
theorem tot_part {len : Int} {c d : List Int} (hG : Good len c d) {a b : Int} (h0 : 0 ≤ a) (h1 : a < b) : ∀ k, k ≤ d.length → tot (pC c a b k) (pD c d a b k) (pD c d a b k).length = vint c d a b k
  | 0, _ => rfl
  | k + 1, hk => by
    have ih := tot_part hG h0 h1 k (by omega)
    have hl := pCD_len c d a b k
    have hp := pC_last hG h0 h1 k (by omega)
    have hst := (hG.step k (by omega)).1
    unfold vint
    rcases h : inside c a b k with _ | _
    · rw [pC_no h, pD_no h, ih]
      unfold inside at h
      rw [Bool.and_eq_false_iff, decide_eq_false_iff_not, decide_eq_false_iff_not] at h
      rw [if_neg (by omega)]
      omega
    · rw [pC_yes h, pD_yes h, List.length_append]
      unfold inside at h
      rw [Bool.and_eq_true_iff, decide_eq_true_iff, decide_eq_true_iff] at h
      rw [if_pos (by omega)]
      show tot (pC c a b k ++ [min b (at_ c (k + 1)) - a]) (pD c d a b k ++ [at_ d k]) (pD c d a b k).length + at_ (pD c d a b k ++ [at_ d k]) (pD c d a b k).length * (at_ (pC c a b k ++ [min b (at_ c (k + 1)) - a]) ((pD c d a b k).length + 1) - at_ (pC c a b k ++ [min b (at_ c (k + 1)) - a]) (pD c d a b k).length) = _
      have e := at_end (l := pC c a b k) (x := min b (at_ c (k + 1)) - a)
      rw [hl] at e
      have e2 : at_ (pD c d a b k ++ [at_ d k]) (pD c d a b k).length = at_ d k := at_end
      have e3 : at_ (pC c a b k ++ [min b (at_ c (k + 1)) - a]) (pD c d a b k).length = at_ (pC c a b k) (pD c d a b k).length := at_app (by omega)
      have e4 := tot_congr (c := pC c a b k ++ [min b (at_ c (k + 1)) - a]) (c' := pC c a b k) (d := pD c d a b k ++ [at_ d k]) (d' := pD c d a b k) (pD c d a b k).length (fun j hj => at_app (by omega)) (fun j hj => at_app hj)
      rw [e4, ih, e, e2, e3, hp, Int.mul_comm]
      congr 2
      omega
end Ck
end Go.Proofs.Ytaaamcleilpnhaa
namespace Go.Proofs.Ytaaamcleilpnhaa
open Go.RowKit

/-- The ratio of n / d, as it is reckoned. -/
theorem make_parts (n d : Int) (h : d ≠ 0) :
    (Rp.q n d).num = sg (ngB n d) ((n.natAbs : Int) / ((n.natAbs.gcd d.natAbs : Nat) : Int)) ∧ ((Rp.q n d).den : Int) = (d.natAbs : Int) / ((n.natAbs.gcd d.natAbs : Nat) : Int) ∧
    1 ≤ n.natAbs.gcd d.natAbs ∧ n.natAbs.gcd d.natAbs ≤ d.natAbs := by
  have g1 : 0 < n.natAbs.gcd d.natAbs := Nat.gcd_pos_of_pos_right _ (by omega)
  have gn : ((n.natAbs.gcd d.natAbs : Nat) : Int) ∣ n := Int.ofNat_dvd_left.2 (Nat.gcd_dvd_left ..)
  have gi : Int.gcd d n = n.natAbs.gcd d.natAbs := by rw [Int.gcd_comm]; rfl
  refine ⟨?_, ?_, g1, Nat.le_of_dvd (by omega) (Nat.gcd_dvd_right ..)⟩
  · unfold Rp.q
    rw [Rat.num_divInt, gi]
    unfold sg ngB
    by_cases hd : d < 0
    · rw [Int.sign_eq_neg_one_of_neg hd, Int.neg_one_mul]
      by_cases hn : n < 0
      · simp [hn, hd]
        rw [show ((n.natAbs : Nat) : Int) = -n by omega]
      · simp [hn, hd]
        rw [show ((n.natAbs : Nat) : Int) = n by omega, Int.neg_ediv_of_dvd gn]
    · rw [Int.sign_eq_one_of_pos (by omega), Int.one_mul]
      by_cases hn : n < 0
      · simp [hn, hd]
        rw [show ((n.natAbs : Nat) : Int) = -n by omega, Int.neg_ediv_of_dvd gn, Int.neg_neg]
      · simp [hn, hd]
        rw [show ((n.natAbs : Nat) : Int) = n by omega]
  · unfold Rp.q
    rw [Rat.den_divInt, if_neg h, gi]
    simp

set_option maxHeartbeats 2000000 in
theorem Make_core (n d A1 D1 : Int) (G : Nat) (n0 : -9223372036854775808 ≤ n) (n1 : n ≤ 9223372036854775807) (d0 : -9223372036854775808 ≤ d) (d1 : d ≤ 9223372036854775807)
    (hz : d ≠ 0) (hG : n.natAbs.gcd d.natAbs = G) (g0 : 1 ≤ (G : Int)) (g1 : (G : Int) < 18446744073709551616) (e1 : (n.natAbs : Int) / (G : Int) = A1) (e2 : (d.natAbs : Int) / (G : Int) = D1)
    (A0 : 0 ≤ A1) (AU : A1 ≤ 9223372036854775808) (D0 : 0 ≤ D1) (DU : D1 ≤ 9223372036854775808) (w : World) :
    Calls Try.prog 133 #[.int .i64 n, .int .i64 d] w fun e w' => e = .returned (.tuple #[.agg #[.int .i64 (Rp.low (sg (ngB n d) A1) D1).1, .int .i64 (Rp.low (sg (ngB n d) A1) D1).2.1], .int .i64 (Rp.low (sg (ngB n d) A1) D1).2.2]) ∧ Below w.heap.size w w' := by
  have w1 : IntKind.u64.wrap ((n.natAbs : Int) / (G : Int)) = A1 := by rw [e1]; exact IntWalk.u64_in _ (by omega)
  have w2 : IntKind.u64.wrap ((d.natAbs : Int) / (G : Int)) = D1 := by rw [e2]; exact IntWalk.u64_in _ (by omega)
  have nG : ¬ G = 0 := by omega
  have nG' : ¬ (G : Int) = 0 := by omega
  have hb : (d == 0) = false := by rw [beq_eq_false_iff_ne]; exact hz
  have cl := fun w => lowest_any (ngB n d) A1 D1 A0 (by omega) D0 (by omega) w
  simp only [show A1 / 18446744073709551616 = 0 by omega, show A1 % 18446744073709551616 = A1 by omega, show D1 / 18446744073709551616 = 0 by omega, show D1 % 18446744073709551616 = D1 by omega] at cl
  have hs : (!(decide (n < 0) == decide (d < 0))) = ngB n d := rfl
  generalize ngB n d = sN at *
  have CL := Lib.hid cl
  clear cl hz e1 e2
  go_enter Try.func133, Try.ntmps133
  go_wp2_with (first
    | (go_at_call 94; refine (magnitude_any _ (by omega) (by omega) _).mono ?_; rintro e w' ⟨rfl, rfl⟩)
    | (go_at_call 93; refine (gcd_any _ _ (by omega) (by omega) _).mono ?_; rintro e w' ⟨rfl, nd, rfl⟩))
  try simp only [hG]
  clear hG
  refine at_world (fun v => Below w.heap.size w v ∧ v.cell? ⟨w.heap.size, 0, none⟩ = some (.int .i64 0) ∧ v.cell? ⟨w.heap.size, 1, none⟩ = some (.int .i64 0) ∧ v.frozen? ⟨w.heap.size, 0, none⟩ = false ∧ v.frozen? ⟨w.heap.size, 1, none⟩ = false) ⟨(below_drewN ((Below.refl _ _).alloc (Nat.le_refl _) _) _), (by go_simp), (by go_simp), (by go_simp), (by go_simp)⟩ (fun V hS => ?_)
  obtain ⟨hbb, z0, z1, fz0, fz1⟩ := hS
  have hsz := lt_of_cell z0
  go_region_held3 (fun v => Below w.heap.size w v ∧ v.cell? ⟨w.heap.size, 0, none⟩ = some (vat v (w.heap.size) 0) ∧ v.cell? ⟨w.heap.size, 1, none⟩ = some (vat v (w.heap.size) 1) ∧ v.frozen? ⟨w.heap.size, 0, none⟩ = false ∧ v.frozen? ⟨w.heap.size, 1, none⟩ = false)
    (first | (exact ⟨hbb.drew, vat_of (z0), vat_of (z1), fz0, fz1⟩) | (obtain ⟨k0, kz0, kz1, kfz0, kfz1⟩ := ‹Below w.heap.size w _ ∧ _›; exact ⟨keepB k0 hb3, vat_of (keepC hb3 kz0), vat_of (keepC hb3 kz1), keepF hb3 kz0 kfz0, keepF hb3 kz1 kfz1⟩) | (obtain ⟨k0, kz0, kz1, kfz0, kfz1⟩ := ‹Below w.heap.size w _ ∧ _›; exact ⟨below_set (below_set (k0) (by omega) _) (by omega) _, vat_set (vat_set (kz0) _ _) _ _, vat_set (vat_set (kz1) _ _) _ _, froz_set (froz_set (kfz0) _ _) _ _, froz_set (froz_set (kfz1) _ _) _ _⟩))
    (first
      | (go_at_call 118; refine (CL.out _).mono ?_; rintro e w3 ⟨rfl, hb3⟩))
  go_wp2
  obtain ⟨k0', k1', k2', _, _⟩ := ‹Below w.heap.size w _ ∧ _›
  have r0 := res_far (by simp) k1'
  have r1 := res_last k2'
  exact bodyPost_ret (v := .tuple #[.agg #[.int .i64 (Rp.low (sg sN A1) D1).1, .int .i64 (Rp.low (sg sN A1) D1).2.1], .int .i64 (Rp.low (sg sN A1) D1).2.2]) (by simp [results, Try.results133, go_sem, r0, r1]) rfl ⟨rfl, k0'⟩

theorem Make_any (n d : Int) (n0 : -9223372036854775808 ≤ n) (n1 : n ≤ 9223372036854775807) (d0 : -9223372036854775808 ≤ d) (d1 : d ≤ 9223372036854775807) (w : World) :
    Calls Try.prog 133 #[.int .i64 n, .int .i64 d] w fun e w' => e = .returned (.tuple #[.agg #[.int .i64 (Rp.makeS n d).1, .int .i64 (Rp.makeS n d).2.1], .int .i64 (Rp.makeS n d).2.2]) ∧ Below w.heap.size w w' := by
  by_cases hz : d = 0
  · have e : Rp.makeS n d = (0, 0, 18) := by unfold Rp.makeS; rw [if_pos hz]
    rw [e]
    have hb : (d == 0) = true := by rw [beq_iff_eq]; exact hz
    clear hz e
    go_enter Try.func133, Try.ntmps133
    go_wp2
    exact bodyPost_ret (v := .tuple #[.agg #[.int .i64 0, .int .i64 0], .int .i64 18]) (by simp [results, Try.results133, go_sem]) rfl ⟨rfl, (Below.refl _ _).alloc (Nat.le_refl _) _⟩
  · obtain ⟨p1, p2, p3, p4⟩ := make_parts n d hz
    have e : Rp.makeS n d = Rp.low (sg (ngB n d) ((n.natAbs : Int) / ((n.natAbs.gcd d.natAbs : Nat) : Int))) ((d.natAbs : Int) / ((n.natAbs.gcd d.natAbs : Nat) : Int)) := by
      unfold Rp.makeS Rp.ofQ; rw [if_neg hz, p1, p2]
    rw [e]
    have a1 : (n.natAbs : Int) / ((n.natAbs.gcd d.natAbs : Nat) : Int) ≤ n.natAbs := Int.ediv_le_self _ (by omega)
    have a2 : (d.natAbs : Int) / ((n.natAbs.gcd d.natAbs : Nat) : Int) ≤ d.natAbs := Int.ediv_le_self _ (by omega)
    exact Make_core n d _ _ _ n0 n1 d0 d1 hz rfl (by omega) (by omega) rfl rfl (Int.ediv_nonneg (by omega) (by omega)) (by omega) (Int.ediv_nonneg (by omega) (by omega)) (by omega) w


end Go.Proofs.Ytaaamcleilpnhaa
namespace Go.Proofs.Ytaaamcleilpnhaa
namespace Ch
open Ck
/-- A number of which D times is a whole number. -/
def Dd (D : Int) (x : Rat) : Prop := ∃ M : Int, x * (D : Rat) = (M : Rat)
theorem Dd.int (D n : Int) : Dd D (n : Rat) := ⟨n * D, (Rat.intCast_mul n D).symm⟩
theorem Dd.add {D : Int} {x y : Rat} : Dd D x → Dd D y → Dd D (x + y)
  | ⟨a, ha⟩, ⟨b, hb⟩ => ⟨a + b, by rw [Rat.intCast_add, ← ha, ← hb]; grind⟩
theorem Dd.sub {D : Int} {x y : Rat} : Dd D x → Dd D y → Dd D (x - y)
  | ⟨a, ha⟩, ⟨b, hb⟩ => ⟨a - b, by rw [Rat.intCast_sub, ← ha, ← hb]; grind⟩
theorem Dd.muli {D : Int} {x : Rat} (n : Int) : Dd D x → Dd D (x * (n : Rat))
  | ⟨a, ha⟩ => ⟨a * n, by rw [Rat.intCast_mul, ← ha]; grind⟩
theorem Dd.up {D : Int} {x : Rat} (k : Int) : Dd D x → Dd (D * k) x
  | ⟨a, ha⟩ => ⟨a * k, by rw [Rat.intCast_mul, Rat.intCast_mul, ← ha]; grind⟩
theorem Dd.divi {D : Int} {x : Rat} {k : Int} (hk : ((k : Int) : Rat) ≠ 0) : Dd D x → Dd (D * k) (x / (k : Rat))
  | ⟨a, ha⟩ => ⟨a, by
    rw [Rat.intCast_mul, ← ha]
    have := Rat.div_mul_cancel (a := x) hk
    grind⟩
theorem ofQ_dd {D : Int} {x : Rat} (h : Dd D x) (d1 : 1 ≤ D) (d2 : D ≤ 1000000) (x0 : ((-1000000000 : Int) : Rat) ≤ x) (x1 : x ≤ ((1000000000 : Int) : Rat)) : (Rp.ofQ x).2.2 = 0 := by
  have key : x.num.natAbs ≤ 1000000000000000000 ∧ ((x.den : Nat) : Int).natAbs ≤ 1000000000000000000 := by
    obtain ⟨M, hM⟩ := h
    have h2 : ((x.den : Int) : Rat) ≠ 0 := by
      have h0 := Rat.intCast_lt_intCast.2 (show (0 : Int) < (x.den : Int) from Int.natCast_pos.2 x.den_pos)
      intro h
      rw [h] at h0
      exact absurd h0 (by decide)
    have e : x * ((x.den : Int) : Rat) = (x.num : Rat) := by
      have h1 := Rat.num_divInt_den x
      rw [Rat.divInt_eq_div] at h1
      have h3 := Rat.div_mul_cancel (a := (x.num : Rat)) h2
      rw [h1] at h3
      exact h3
    have hi : x.num * D = M * (x.den : Int) := by
      rw [← Rat.intCast_inj, Rat.intCast_mul, Rat.intCast_mul, ← hM, ← e]
      grind
    have hd : x.den ∣ D.natAbs := by
      refine Nat.Coprime.dvd_of_dvd_mul_left (Nat.Coprime.symm x.reduced) ?_
      rw [← Int.natAbs_mul, hi, Int.natAbs_mul]
      exact Nat.dvd_mul_left _ _
    have hle := Nat.le_of_dvd (by omega) hd
    have hp : ((0 : Int) : Rat) ≤ ((x.den : Int) : Rat) := Rat.intCast_le_intCast.2 (Int.natCast_nonneg _)
    have g1 := Rat.mul_le_mul_of_nonneg_right x1 hp
    have g0 := Rat.mul_le_mul_of_nonneg_right x0 hp
    rw [e, ← Rat.intCast_mul, Rat.intCast_le_intCast] at g1 g0
    omega
  unfold Rp.ofQ Rp.low
  rw [if_pos key]
theorem c0 : ((0 : Int) : Rat) = 0 := rfl
/-- A product with a density. -/
theorem mul_bd {t : Rat} {k B : Int} (k0 : 0 ≤ k) (k1 : k ≤ 12) (b0 : 0 ≤ B) (t0 : -((B : Int) : Rat) ≤ t) (t1 : t ≤ ((B : Int) : Rat)) : ((-(12 * B) : Int) : Rat) ≤ t * (k : Rat) ∧ t * (k : Rat) ≤ ((12 * B : Int) : Rat) := by
  have hk := cast_le k0
  have g1 := Rat.mul_le_mul_of_nonneg_right t1 hk
  have g0 := Rat.mul_le_mul_of_nonneg_right t0 hk
  have hk2 : B * k ≤ 12 * B := by
    have := Int.mul_le_mul_of_nonneg_left k1 b0
    rw [Int.mul_comm 12 B]
    exact this
  have g2 := cast_le hk2
  rw [Rat.intCast_mul] at g2
  have g3 : ((-(12 * B) : Int) : Rat) = -((12 * B : Int) : Rat) := Rat.intCast_neg _
  rw [g3]
  constructor <;> grind
theorem wthS_dd {D n d m c k : Int} (h : Rp.Ok n d) (h2 : Rp.Ok m c) (a : Dd D (Rp.q n d)) (b : Dd D (Rp.q m c)) (d1 : 1 ≤ D) (d2 : D ≤ 1000000) (a0 : 0 ≤ Rp.q n d) (a1 : Rp.q n d ≤ ((1000 : Int) : Rat)) (b0 : 0 ≤ Rp.q m c) (b1 : Rp.q m c ≤ ((1000 : Int) : Rat)) (k0 : 0 ≤ k) (k1 : k ≤ 12) :
    (wthS n d m c k).2.2 = 0 := by
  have e1 : ((-1000000000 : Int) : Rat) ≤ Rp.q m c - Rp.q n d := by
    have := cast_le (show (-1000000000 : Int) ≤ -1000 by decide)
    have e := Rat.intCast_neg 1000
    grind
  have e2 : Rp.q m c - Rp.q n d ≤ ((1000000000 : Int) : Rat) := by
    have := cast_le (show (1000 : Int) ≤ 1000000000 by decide)
    grind
  have hs : (Rp.subS m c n d).2.2 = 0 := by
    rw [Rp.subS_ok h2 h]
    exact ofQ_dd (b.sub a) d1 d2 e1 e2
  have hs' := Rp.ofQ_cases (Rp.q m c - Rp.q n d)
  rw [← Rp.subS_ok h2 h] at hs'
  unfold wthS
  rw [if_pos hs]
  rcases hs' with ⟨_, hok, hq⟩ | e
  · rw [Rp.mulS_ok hok (Rp.Ok_one (by omega) (by omega)), hq, Rp.q_one]
    have g := mul_bd (t := Rp.q m c - Rp.q n d) (B := 1000) k0 k1 (by decide) (by grind) (by grind)
    refine ofQ_dd ((b.sub a).muli k) d1 d2 (Rat.le_trans (cast_le (by decide)) g.1) (Rat.le_trans g.2 (cast_le (by decide)))
  · rw [e] at hs
    exact absurd hs (by decide)
section
variable {len : Int} {c d : List Int}
theorem clq_dd {D : Int} {x : Rat} (lo hi : Int) (h : Dd D x) : Dd D (clq x (lo : Rat) (hi : Rat)) := by
  unfold clq
  split
  · exact Dd.int D 0
  · split
    · exact (Dd.int D hi).sub (Dd.int D lo)
    · exact h.sub (Dd.int D lo)
theorem cum_dd {D : Int} {x : Rat} (h : Dd D x) : ∀ k, Dd D (cum c d x k)
  | 0 => Dd.int D 0
  | k + 1 => by
    unfold cum
    refine (cum_dd h k).add ?_
    have := (clq_dd (at_ c k) (at_ c (k + 1)) h).muli (at_ d k)
    rwa [Rat.mul_comm] at this
theorem cum_len (hG : Ck.Good len c d) : ∀ k, k ≤ d.length → cum c d (len : Rat) k = ((tot c d k : Int) : Rat)
  | 0, _ => rfl
  | k + 1, hk => by
    have h1 := cast_lt (hG.step k (by omega)).1
    have h2 := cast_le (show at_ c (k + 1) ≤ len by
      have := hG.mono (k + 1) d.length (by omega) (Nat.le_refl _)
      have := hG.last
      omega)
    unfold cum tot
    rw [cum_len hG k (by omega), clq_high h2 h1, Rat.intCast_add, Rat.intCast_mul, Rat.intCast_sub]
/-- What lies before a point is at most all. -/
theorem cum_bd (hG : Ck.Good len c d) {x : Rat} (h0 : 0 ≤ x) (h1 : x ≤ (len : Rat)) (k : Nat) (hk : k ≤ d.length) : 0 ≤ cum c d x k ∧ cum c d x k ≤ ((12000 : Int) : Rat) := by
  have a := cum_mono hG h0 k hk
  rw [cum_low hG Rat.le_refl k hk] at a
  have b := cum_mono hG h1 k hk
  rw [cum_len hG k hk] at b
  have t := (tot_bd hG k hk).2
  have l1 := hG.len1
  have m := hG.mono k d.length hk (Nat.le_refl _)
  have := hG.last
  exact ⟨a, Rat.le_trans b (cast_le (by omega))⟩
theorem vgo_dd {D : Int} (hG : Ck.Good len c d) {n2 d2 : Int} (h2 : Rp.Ok n2 d2) (dd : Dd D (Rp.q n2 d2)) (d1 : 1 ≤ D) (e2 : D ≤ 1000000) (p0 : 0 ≤ Rp.q n2 d2) (p1 : Rp.q n2 d2 ≤ (len : Rat)) : ∀ k, k ≤ d.length → (vgo c d 0 1 n2 d2 k).2.2 = 0
  | 0, _ => rfl
  | k + 1, hk => by
    have e := vgo_dd hG h2 dd d1 e2 p0 p1 k (by omega)
    have o0 : Rp.Ok 0 1 := Rp.Ok_one (by decide) (by decide)
    have q0 : Rp.q 0 1 = 0 := Rp.q_one 0
    have hv := vgo_is hG o0 h2 (by rw [q0]; exact p0) k (by omega)
    have hst := hG.step k (by omega)
    have r1 := hG.range k (by omega)
    have r2 := hG.range (k + 1) (by omega)
    have hl1 := cast_le hG.len1
    have o1 : Rp.Ok (at_ c k) 1 := Rp.Ok_one (by have := hG.len1; omega) (by have := hG.len1; omega)
    have o2 : Rp.Ok (at_ c (k + 1)) 1 := Rp.Ok_one (by have := hG.len1; omega) (by have := hG.len1; omega)
    obtain ⟨m1, m2⟩ := mxS_ok o0 o1
    obtain ⟨m3, m4⟩ := mnS_ok h2 o2
    rw [q0, Rp.q_one] at m2
    rw [Rp.q_one] at m4
    have b1 := cast_le r1.1
    have b2 := cast_le r1.2
    have b3 := cast_le r2.1
    have b4 := cast_le r2.2
    have g1 : Dd D (Rp.q (mxS 0 1 (at_ c k) 1).1 (mxS 0 1 (at_ c k) 1).2) := by
      rw [m2]
      split
      · exact Dd.int _ _
      · exact Dd.int D 0
    have g2 : Dd D (Rp.q (mnS n2 d2 (at_ c (k + 1)) 1).1 (mnS n2 d2 (at_ c (k + 1)) 1).2) := by
      rw [m4]
      split
      · exact Dd.int _ _
      · exact dd
    have w := wthS_dd (k := at_ d k) m1 m3 g1 g2 d1 e2 (by rw [m2]; grind) (by rw [m2]; grind) (by rw [m4]; grind) (by rw [m4]; grind) hst.2.1 hst.2.2
    have hw := wthS_is m1 m3 (k := at_ d k) (by omega) (by omega)
    have hx := mul_bd (t := Rp.q (mnS n2 d2 (at_ c (k + 1)) 1).1 (mnS n2 d2 (at_ c (k + 1)) 1).2 - Rp.q (mxS 0 1 (at_ c k) 1).1 (mxS 0 1 (at_ c k) 1).2) (k := at_ d k) (B := 1000) hst.2.1 hst.2.2 (by decide) (by rw [m2, m4]; grind) (by rw [m2, m4]; grind)
    have hy := cum_bd hG p0 p1 k (by omega)
    unfold vgo
    rw [if_neg (by rw [e]; simp)]
    split
    · exact e
    · rw [if_neg (by rw [w]; simp)]
      rcases hw with ⟨_, w2, w3⟩ | hw
      · rcases hv with ⟨_, hok, hq⟩ | hv
        · rw [Rp.addS_ok hok w2, w3, hq, q0, cum_low hG Rat.le_refl k (by omega)]
          have a1 := cast_le (show (-1000000000 : Int) ≤ -(12 * 1000) by decide)
          have a2 := cast_le (show (12 * 1000 + 12000 : Int) ≤ 1000000000 by decide)
          rw [Rat.intCast_add] at a2
          refine ofQ_dd (((cum_dd dd k).sub (Dd.int D 0)).add ((g2.sub g1).muli _)) d1 e2 ?_ ?_
          · grind
          · grind
        · rw [hv] at e
          exact absurd e (by decide)
      · rw [hw] at w
        exact absurd w (by decide)
theorem mgo_dd (hG : Ck.Good len c d) : ∀ f k, f + k = d.length → ∀ l1 l2, Rp.Ok l1 l2 → Dd 2 (Rp.q l1 l2) → 0 ≤ Rp.q l1 l2 → Rp.q l1 l2 ≤ ((12000 : Int) : Rat) →
    ((mgo len c d 0 1 f k l1 l2).2.2 = 0 ∧ ∃ D : Int, 1 ≤ D ∧ D ≤ 24 ∧ Dd D (Rp.q (mgo len c d 0 1 f k l1 l2).1 (mgo len c d 0 1 f k l1 l2).2.1)) ∨ mgo len c d 0 1 f k l1 l2 = (0, 0, 6)
  | 0, _, _, _, _, _, _, _, _ => .inr rfl
  | f + 1, k, hk, l1, l2, hok, dd, h0, h1 => by
    have ih := mgo_dd hG f (k + 1) (by omega)
    have o0 : Rp.Ok 0 1 := Rp.Ok_one (by decide) (by decide)
    have q0 : Rp.q 0 1 = 0 := Rp.q_one 0
    have hst := hG.step k (by omega)
    have r1 := hG.range k (by omega)
    have r2 := hG.range (k + 1) (by omega)
    have hl1 := cast_le hG.len1
    have hl0 := cast_le hG.len0
    have o1 : Rp.Ok (at_ c k) 1 := Rp.Ok_one (by have := hG.len1; omega) (by have := hG.len1; omega)
    have o2 : Rp.Ok (at_ c (k + 1)) 1 := Rp.Ok_one (by have := hG.len1; omega) (by have := hG.len1; omega)
    have o3 : Rp.Ok len 1 := Rp.Ok_one (by have := hG.len0; omega) (by have := hG.len1; omega)
    obtain ⟨m1, m2⟩ := mxS_ok o0 o1
    obtain ⟨m3, m4⟩ := mnS_ok o3 o2
    rw [q0, Rp.q_one] at m2
    rw [Rp.q_one, Rp.q_one] at m4
    have b1 := cast_le r1.1
    have b2 := cast_le r1.2
    have b3 := cast_le r2.1
    have b4 := cast_le r2.2
    rw [c0] at b1 b3
    have z1 : ((0 : Int) : Rat) ≤ ((1 : Int) : Rat) := cast_le (by decide)
    rw [c0] at z1
    have g1 : Dd 2 (Rp.q (mxS 0 1 (at_ c k) 1).1 (mxS 0 1 (at_ c k) 1).2) := by
      rw [m2]
      split
      · exact Dd.int _ _
      · exact Dd.int 2 0
    have g2 : Dd 2 (Rp.q (mnS len 1 (at_ c (k + 1)) 1).1 (mnS len 1 (at_ c (k + 1)) 1).2) := by
      rw [m4]
      split <;> exact Dd.int _ _
    have w := wthS_dd (k := at_ d k) m1 m3 g1 g2 (by decide) (by decide) (by rw [m2]; grind) (by rw [m2]; grind) (by rw [m4]; grind) (by rw [m4]; grind) hst.2.1 hst.2.2
    have hw := wthS_is m1 m3 (k := at_ d k) (by omega) (by omega)
    have hx := mul_bd (t := Rp.q (mnS len 1 (at_ c (k + 1)) 1).1 (mnS len 1 (at_ c (k + 1)) 1).2 - Rp.q (mxS 0 1 (at_ c k) 1).1 (mxS 0 1 (at_ c k) 1).2) (k := at_ d k) (B := 1000) hst.2.1 hst.2.2 (by decide) (by rw [m2, m4]; grind) (by rw [m2, m4]; grind)
    have bg1 : Rp.q (mxS 0 1 (at_ c k) 1).1 (mxS 0 1 (at_ c k) 1).2 ≤ ((1000 : Int) : Rat) := by rw [m2]; grind
    have bg0 : 0 ≤ Rp.q (mxS 0 1 (at_ c k) 1).1 (mxS 0 1 (at_ c k) 1).2 := by rw [m2]; grind
    unfold mgo
    generalize mxS 0 1 (at_ c k) 1 = bg at *
    generalize mnS len 1 (at_ c (k + 1)) 1 = en at *
    by_cases hz : at_ d k = 0 ∨ ¬ Rp.q bg.1 bg.2 < Rp.q en.1 en.2
    · rw [if_pos hz]
      exact ih l1 l2 hok dd h0 h1
    · rw [if_neg hz, if_neg (by rw [w]; simp)]
      have hd1 : 1 ≤ at_ d k := by omega
      rcases hw with ⟨_, w2, w3⟩ | hw
      · by_cases hle : ¬ Rp.q (wthS bg.1 bg.2 en.1 en.2 (at_ d k)).1 (wthS bg.1 bg.2 en.1 en.2 (at_ d k)).2.1 < Rp.q l1 l2
        · rw [if_pos hle]
          have hkc := cast_le hd1
          have hk0 : ((at_ d k : Int) : Rat) ≠ 0 := by
            have := cast_lt (show (0 : Int) < at_ d k by omega)
            intro e0
            rw [e0] at this
            exact absurd this (by decide)
          have dv := dd.divi hk0
          have hb := Rat.div_mul_cancel (a := Rp.q l1 l2) hk0
          have v0 : 0 ≤ Rp.q l1 l2 / ((at_ d k : Int) : Rat) := by
            rcases lt_or (Rp.q l1 l2 / ((at_ d k : Int) : Rat)) 0 with g | g
            · have := Rat.mul_le_mul_of_nonneg_right (c := ((at_ d k : Int) : Rat)) (show Rp.q l1 l2 / ((at_ d k : Int) : Rat) ≤ 0 from Rat.le_of_lt g) (Rat.le_trans z1 hkc)
              have h3 : Rp.q l1 l2 = 0 := by grind
              rw [h3] at g
              have : (0 : Rat) / ((at_ d k : Int) : Rat) = 0 := by grind
              rw [this] at g
              exact absurd g (by decide)
            · exact g
          have v1 : Rp.q l1 l2 / ((at_ d k : Int) : Rat) ≤ Rp.q l1 l2 := by
            have := Rat.mul_le_mul_of_nonneg_left hkc v0
            rw [hb] at this
            have e1 : ((1 : Int) : Rat) = 1 := rfl
            grind
          have z2 := cast_le (show (-1000000000 : Int) ≤ 0 by decide)
          have z3 := cast_le (show (12000 + 1000 : Int) ≤ 1000000000 by decide)
          rw [c0] at z2
          rw [Rat.intCast_add] at z3
          have z4 : ((0 : Int) : Rat) ≤ ((1000 : Int) : Rat) := cast_le (by decide)
          rw [c0] at z4
          have D1 : (1 : Int) ≤ 2 * at_ d k := by omega
          have D2 : 2 * at_ d k ≤ 24 := by omega
          have hs : (Rp.divS l1 l2 (at_ d k) 1).2.2 = 0 := by
            rw [Rp.divS_ok hok (Rp.Ok_one (by omega) (by omega)) (by omega), Rp.q_one]
            exact ofQ_dd dv D1 (by omega) (by grind) (by grind)
          have hs' := Rp.ofQ_cases (Rp.q l1 l2 / Rp.q (at_ d k) 1)
          rw [← Rp.divS_ok hok (Rp.Ok_one (by omega) (by omega)) (by omega), Rp.q_one] at hs'
          unfold rchS
          rw [if_pos hs]
          rcases hs' with ⟨_, ok2, hq2⟩ | e
          · have gs : Dd (2 * at_ d k) (Rp.q bg.1 bg.2 + Rp.q l1 l2 / ((at_ d k : Int) : Rat)) := (g1.up _).add dv
            have ht : (Rp.addS bg.1 bg.2 (Rp.divS l1 l2 (at_ d k) 1).1 (Rp.divS l1 l2 (at_ d k) 1).2.1).2.2 = 0 := by
              rw [Rp.addS_ok m1 ok2, hq2]
              exact ofQ_dd gs D1 (by omega) (by grind) (by grind)
            have ht' := Rp.ofQ_cases (Rp.q bg.1 bg.2 + Rp.q (Rp.divS l1 l2 (at_ d k) 1).1 (Rp.divS l1 l2 (at_ d k) 1).2.1)
            rw [← Rp.addS_ok m1 ok2] at ht'
            refine .inl ⟨ht, 2 * at_ d k, D1, D2, ?_⟩
            rcases ht' with ⟨_, _, hq3⟩ | e
            · rw [hq3, hq2]
              exact gs
            · rw [e] at ht
              exact absurd ht (by decide)
          · rw [e] at hs
            exact absurd hs (by decide)
        · rw [if_neg hle]
          rw [Decidable.not_not] at hle
          have ds : Dd 2 (Rp.q l1 l2 - Rp.q (wthS bg.1 bg.2 en.1 en.2 (at_ d k)).1 (wthS bg.1 bg.2 en.1 en.2 (at_ d k)).2.1) := by
            rw [w3]
            exact dd.sub ((g2.sub g1).muli _)
          have hbe : 0 ≤ Rp.q (wthS bg.1 bg.2 en.1 en.2 (at_ d k)).1 (wthS bg.1 bg.2 en.1 en.2 (at_ d k)).2.1 := by
            rw [w3]
            have hlt := (not_or.1 hz).2
            rw [Decidable.not_not] at hlt
            have hk0 := cast_le hst.2.1
            exact Rat.mul_nonneg (by grind) hk0
          have z2 := cast_le (show (-1000000000 : Int) ≤ 0 by decide)
          have z3 := cast_le (show (12000 : Int) ≤ 1000000000 by decide)
          rw [c0] at z2
          have hs : (Rp.subS l1 l2 (wthS bg.1 bg.2 en.1 en.2 (at_ d k)).1 (wthS bg.1 bg.2 en.1 en.2 (at_ d k)).2.1).2.2 = 0 := by
            rw [Rp.subS_ok hok w2]
            exact ofQ_dd ds (by decide) (by decide) (by grind) (by grind)
          have hs' := Rp.ofQ_cases (Rp.q l1 l2 - Rp.q (wthS bg.1 bg.2 en.1 en.2 (at_ d k)).1 (wthS bg.1 bg.2 en.1 en.2 (at_ d k)).2.1)
          rw [← Rp.subS_ok hok w2] at hs'
          rw [if_neg (by rw [hs]; simp)]
          rcases hs' with ⟨_, ok3, hq3⟩ | e
          · exact ih _ _ ok3 (by rw [hq3]; exact ds) (by rw [hq3]; grind) (by rw [hq3]; grind)
          · rw [e] at hs
            exact absurd hs (by decide)
      · rw [hw] at w
        exact absurd w (by decide)
end
/-- Half of the total. -/
def hf (c : CkD) : Int × Int × Int := Rp.makeS (tot c.2.1 c.2.2 c.2.2.length) 2
theorem hf_ok {c : CkD} (hc : Ak.ckD c = 0) : (hf c).2.2 = 0 ∧ Rp.Ok (hf c).1 (hf c).2.1 ∧ Rp.q (hf c).1 (hf c).2.1 * 2 = ((tot c.2.1 c.2.2 c.2.2.length : Int) : Rat) ∧ Dd 2 (Rp.q (hf c).1 (hf c).2.1) := by
  have hG := chk_good (show Ck.chk c.1 c.2.1 c.2.2 = 0 from hc)
  have t0 := (tot_bd hG _ (Nat.le_refl _)).1
  have t1 := (tot_bd hG _ (Nat.le_refl _)).2
  have l1 := hG.len1
  have la := hG.last
  generalize hT : tot c.2.1 c.2.2 c.2.2.length = T at *
  have e2 : ((2 : Int) : Rat) ≠ 0 := by decide
  have hd : Dd 2 ((T : Rat) / ((2 : Int) : Rat)) := by
    have := (Dd.int 1 T).divi (k := 2) e2
    exact this
  have hm := Rat.div_mul_cancel (a := (T : Rat)) e2
  have e3 : ((2 : Int) : Rat) = 2 := rfl
  have hq : Rp.q T 2 = (T : Rat) / ((2 : Int) : Rat) := Rat.divInt_eq_div _ _
  have a0 := cast_le t0
  have a1 := cast_le (show T ≤ 12000 by omega)
  have z2 := cast_le (show (-1000000000 : Int) ≤ 0 by decide)
  have z3 := cast_le (show (12000 : Int) ≤ 1000000000 by decide)
  rw [c0] at z2 a0
  have hz : (Rp.ofQ ((T : Rat) / ((2 : Int) : Rat))).2.2 = 0 := ofQ_dd hd (by decide) (by decide) (by grind) (by grind)
  have hc := Rp.ofQ_cases ((T : Rat) / ((2 : Int) : Rat))
  unfold hf Rp.makeS
  rw [if_neg (by decide), hT, hq]
  rcases hc with ⟨_, ok, hv⟩ | e
  · refine ⟨hz, ok, ?_, ?_⟩
    · rw [hv]
      rw [e3] at hm ⊢
      exact hm
    · rw [hv]
      exact hd
  · rw [e] at hz
    exact absurd hz (by decide)
/-- The mark for half of the total. -/
theorem mark_half {c : CkD} (hc : Ak.ckD c = 0) : ∃ x y, Ak.kS c 0 1 (hf c).1 (hf c).2.1 = (x, y, 0) ∧ Ck.pt c.1 x y = true ∧ ∃ D : Int, 1 ≤ D ∧ D ≤ 24 ∧ Dd D (Rp.q x y) := by
  have hG := chk_good (show Ck.chk c.1 c.2.1 c.2.2 = 0 from hc)
  obtain ⟨h0, h1, h2, h3⟩ := hf_ok hc
  generalize hf c = h at *
  have tp := tot_pos hG
  have t1 := (tot_bd hG _ (Nat.le_refl _)).2
  have l1 := hG.len1
  have l0 := hG.len0
  have la := hG.last
  have cl := cum_len hG _ (Nat.le_refl _)
  generalize hT : tot c.2.1 c.2.2 c.2.2.length = T at *
  have a0 := cast_le tp
  have a1 := cast_le (show T ≤ 12000 by omega)
  have o0 : Rp.Ok 0 1 := Rp.Ok_one (by decide) (by decide)
  have q0 : Rp.q 0 1 = 0 := Rp.q_one 0
  have e1 : ((1 : Int) : Rat) = 1 := rfl
  have hp : 0 < Rp.q h.1 h.2.1 := by grind
  have hn : 0 ≤ h.1 := (q_nonneg h1).1 (Rat.le_of_lt hp)
  have hz : h.1 ≠ 0 := fun e => by
    have := (q_zero h1).2 e
    rw [this] at hp
    exact absurd hp (by decide)
  have p1 : Ck.pt c.1 0 1 = true := decide_eq_true ⟨o0, Int.le_refl 0, by omega⟩
  have hk : Ak.kS c 0 1 h.1 h.2.1 = mgo c.1 c.2.1 c.2.2 0 1 c.2.2.length 0 h.1 h.2.1 := by
    unfold Ak.kS
    rw [if_pos ⟨p1, h1, hn⟩]
    unfold mrk
    rw [if_neg hz]
  have hl := cast_le l0
  have hm := mrk_is hG o0 (by rw [q0]; grind) h1 hn
  unfold mrk at hm
  rw [if_neg hz, q0] at hm
  have hg := mgo_dd hG c.2.2.length 0 (by omega) h.1 h.2.1 h1 h3 (Rat.le_of_lt hp) (by grind)
  rw [hk]
  generalize mgo c.1 c.2.1 c.2.2 0 1 c.2.2.length 0 h.1 h.2.1 = r at *
  obtain ⟨x, y, e⟩ := r
  rcases hm with ⟨m0, m1, m2, m3, _⟩ | ⟨_, m⟩ | m
  · dsimp only at m0 m1 m2 m3
    subst m0
    rcases hg with ⟨_, D, d1, d2, d3⟩ | hg
    · refine ⟨x, y, rfl, decide_eq_true ⟨m1, (q_nonneg m1).1 m2, ?_⟩, D, d1, d2, d3⟩
      have hy : (0 : Int) < y := by have := m1.1; omega
      have hyc := cast_lt hy
      have hq : Rp.q x y = (x : Rat) / (y : Rat) := Rat.divInt_eq_div _ _
      have hy0 : ((y : Int) : Rat) ≠ 0 := by
        intro e0
        rw [e0] at hyc
        exact absurd hyc (by decide)
      have hc2 := Rat.div_mul_cancel (a := (x : Rat)) hy0
      have := Rat.mul_le_mul_of_nonneg_right m3 (Rat.le_of_lt hyc)
      rw [hq, hc2, ← Rat.intCast_mul, Rat.intCast_le_intCast] at this
      exact this
    · simp at hg
  · rw [cl, cum_low hG Rat.le_refl _ (Nat.le_refl _)] at m
    grind
  · rw [m] at hg
    rcases hg with ⟨hg, _⟩ | hg
    · exact absurd hg (by decide)
    · simp at hg
/-- The value up to a point with a small denominator. -/
theorem value_at {c : CkD} (hc : Ak.ckD c = 0) {x y D : Int} (hp : Ck.pt c.1 x y = true) (d1 : 1 ≤ D) (d2 : D ≤ 24) (dd : Dd D (Rp.q x y)) : ∃ v1 v2, Ak.vS c 0 1 x y = (v1, v2, 0) ∧ Rp.Ok v1 v2 := by
  have hG := chk_good (show Ck.chk c.1 c.2.1 c.2.2 = 0 from hc)
  have l0 := hG.len0
  have o0 : Rp.Ok 0 1 := Rp.Ok_one (by decide) (by decide)
  have q0 : Rp.q 0 1 = 0 := Rp.q_one 0
  have p1 : Ck.pt c.1 0 1 = true := decide_eq_true ⟨o0, Int.le_refl 0, by omega⟩
  obtain ⟨ok, x0, _⟩ := pt_spec hp
  have g0 := (q_nonneg ok).2 x0
  have hle := Ak.pt_le hG.len0 hG.len1 hp
  have hv := vgo_dd hG ok dd d1 (by omega) g0 hle _ (Nat.le_refl _)
  have ho := vgo_ok hG o0 ok (by rw [q0]; exact g0) hv
  have hs : Ak.vS c 0 1 x y = vgo c.2.1 c.2.2 0 1 x y c.2.2.length := by
    unfold Ak.vS
    rw [if_pos ⟨p1, hp, by rw [q0]; exact Rat.not_lt.2 g0⟩]
  rw [hs]
  generalize vgo c.2.1 c.2.2 0 1 x y c.2.2.length = r at *
  obtain ⟨a, b, e⟩ := r
  dsimp only at hv ho
  subst hv
  exact ⟨a, b, rfl, ho.1⟩
end Ch
end Go.Proofs.Ytaaamcleilpnhaa
namespace Go.Proofs.Ytaaamcleilpnhaa
section
variable {P : Program} {ops : Array Oper} {Q : Exit → Act → World → Prop} {md : Region.Mode} {S T : World → Prop} {s : Nat}
/-- Whatever comes up next: S holds behind it, as long as number s has not come up; T from there on. -/
def ordU (P : Program) (md : Region.Mode) (ops : Array Oper) (Q : Exit → Act → World → Prop) (S T : World → Prop) (s : Nat) : Nat → Array Bool → Act → World → Prop
  | 0, l, a, w => Region.ready md ops l = [] ∧ Q .normal a w
  | n + 1, l, a, w => (Region.ready md ops l = [] → Q .normal a w) ∧
    ∀ i ∈ Region.ready md ops l, wpOp P ops Q i (fun b u => (i = s → T u ∧ wpAnyH P md ops Q T n (l.setIfInBounds i true) b u) ∧ (i ≠ s → S u ∧ ordU P md ops Q S T s n (l.setIfInBounds i true) b u)) a w
theorem ordU_any : ∀ (n : Nat) (l : Array Bool) (a : Act) (w : World), ordU P md ops Q S T s n l a w → wpAny P md ops Q n l a w
  | 0, _, _, _, h => h
  | n + 1, l, a, w, h => ⟨h.1, fun i hi => wpOp_mono (fun b u k => by
      by_cases e : i = s
      · exact wpAny_of_held _ _ _ _ (k.1 e).2
      · exact ordU_any n _ _ _ (k.2 e).2) (h.2 i hi)⟩
/-- Taken first: what yields the same in each world of S, if number s waits for it. -/
theorem ordU_first {i : Nat} {o : Oper} {v : Value} (hi : ops[i]? = some o) (hns : Region.noSelect ops = true) (hQ : ∀ c a w, Q (.panic c) (a.put o.dst v) w → Q (.panic c) a w) (hws : Region.waitsFor md ops s i = true) :
    ∀ (n : Nat) (l : Array Bool) (a : Act) (w : World), (∀ j p, ops[j]? = some p → j ≠ i → l.getD j true = false → (∀ e ∈ p.after, Region.binds md e = true → e.on ≠ i) → o.apart ops p = true) →
      i ∈ Region.ready md ops l → YieldsIf P ops S o v a → S w → ordU P md ops Q S T s n (l.setIfInBounds i true) (a.put o.dst v) w → ordU P md ops Q S T s (n + 1) l a w := by
  have sel := Region.noSelect_spec hns
  obtain ⟨os, hos, x, hx, hxb, hxi⟩ := Region.waitsFor_spec hws
  have un : ∀ l : Array Bool, i ∈ Region.ready md ops l → l.getD i false = false := fun l hr => by
    have h0 := (mem_ready.1 hr).1
    rcases Nat.lt_or_ge i l.size with k | k
    · simp [k] at h0 ⊢
      exact h0
    · simp [Array.getElem?_eq_none k]
  have his : ∀ l : Array Bool, i ∈ Region.ready md ops l → ∀ j ∈ Region.ready md ops l, j ≠ s := fun l hr j hj e => by
    subst e
    obtain ⟨_, p, hp, hall⟩ := mem_ready.1 hj
    rw [hos] at hp
    cases hp
    have := hall x hx hxb
    rw [hxi, un l hr] at this
    cases this
  intro n
  induction n with
  | zero =>
    intro l a w _ hr hy hS H
    refine ⟨fun h => (by rw [h] at hr; cases hr), fun j hj => ?_⟩
    by_cases e : j = i
    · subst e
      exact hy.wpOp hi hS ⟨fun e => absurd e (his l hr j hr), fun _ => ⟨hS, H⟩⟩
    · have := ready_mono hj e
      rw [H.1] at this
      cases this
  | succ n ih =>
    intro l a w hfree hr hy hS H
    refine ⟨fun h => (by rw [h] at hr; cases hr), fun j hj => ?_⟩
    have hjs := his l hr j hj
    by_cases e : j = i
    · subst e
      exact hy.wpOp hi hS ⟨fun e => absurd e hjs, fun _ => ⟨hS, H⟩⟩
    · have h1 := wpOp_mono (fun b u k => k.2 hjs) (H.2 j (ready_mono hj e))
      obtain ⟨hju, p, hp, hall⟩ := mem_ready.1 hj
      have hno : ∀ y ∈ p.after, Region.binds md y = true → y.on ≠ i := fun y hy' hb he => by
        have := hall y hy' hb
        rw [he, un l hr] at this
        cases this
      have h2 := wpOp_putIf hp (hfree j p hp e hju hno) (fun cs b => sel i o cs b hi) (fun cs b => sel j p cs b hp) hQ hy h1
      refine wpOp_mono (fun b u h3 => ⟨fun e => absurd e hjs, fun _ => ⟨h3.2.1, ih (l.setIfInBounds j true) b u (fun k ok hk hki hun hn => ?_) (ready_mono hr (Ne.symm e)) h3.1 h3.2.1 ?_⟩⟩) h2
      · refine hfree k ok hk hki ?_ hn
        by_cases hjk : j = k
        · subst hjk
          exact hju
        · rwa [getD_set_ne true hjk] at hun
      · rw [Array.setIfInBounds_comm _ _ e]
        exact h3.2.2
theorem ordU_take {i : Nat} {o : Oper} {v : Value} {n : Nat} {l : Array Bool} {a : Act} {w : World} (hi : ops[i]? = some o) (hns : Region.noSelect ops = true) (hf : Region.free md ops l i = true) (hr : (Region.ready md ops l).contains i = true) (hws : Region.waitsFor md ops s i = true)
    (hQ : ∀ c a w, Q (.panic c) (a.put o.dst v) w → Q (.panic c) a w) (hy : YieldsIf P ops S o v a) (hS : S w) (h : ordU P md ops Q S T s n (l.setIfInBounds i true) (a.put o.dst v) w) : ordU P md ops Q S T s (n + 1) l a w :=
  ordU_first hi hns hQ hws n l a w (Region.free_spec hi hf) (by simpa using hr) hy hS h
/-- Taken first: what yields the same in each world of S and in each world of T. -/
theorem ordU_first2 {i : Nat} {o : Oper} {v : Value} (hi : ops[i]? = some o) (hns : Region.noSelect ops = true) (hQ : ∀ c a w, Q (.panic c) (a.put o.dst v) w → Q (.panic c) a w) (his : i ≠ s) :
    ∀ (n : Nat) (l : Array Bool) (a : Act) (w : World), (∀ j p, ops[j]? = some p → j ≠ i → l.getD j true = false → (∀ e ∈ p.after, Region.binds md e = true → e.on ≠ i) → o.apart ops p = true) →
      i ∈ Region.ready md ops l → YieldsIf P ops S o v a → YieldsIf P ops T o v a → S w → ordU P md ops Q S T s n (l.setIfInBounds i true) (a.put o.dst v) w → ordU P md ops Q S T s (n + 1) l a w := by
  have sel := Region.noSelect_spec hns
  have un : ∀ l : Array Bool, i ∈ Region.ready md ops l → l.getD i false = false := fun l hr => by
    have h0 := (mem_ready.1 hr).1
    rcases Nat.lt_or_ge i l.size with k | k
    · simp [k] at h0 ⊢
      exact h0
    · simp [Array.getElem?_eq_none k]
  intro n
  induction n with
  | zero =>
    intro l a w _ hr hy _ hS H
    refine ⟨fun h => (by rw [h] at hr; cases hr), fun j hj => ?_⟩
    by_cases e : j = i
    · subst e
      exact hy.wpOp hi hS ⟨fun e => absurd e his, fun _ => ⟨hS, H⟩⟩
    · have := ready_mono hj e
      rw [H.1] at this
      cases this
  | succ n ih =>
    intro l a w hfree hr hy hz hS H
    refine ⟨fun h => (by rw [h] at hr; cases hr), fun j hj => ?_⟩
    by_cases e : j = i
    · subst e
      exact hy.wpOp hi hS ⟨fun e => absurd e his, fun _ => ⟨hS, H⟩⟩
    · obtain ⟨hju, p, hp, hall⟩ := mem_ready.1 hj
      have hno : ∀ y ∈ p.after, Region.binds md y = true → y.on ≠ i := fun y hy' hb he => by
        have := hall y hy' hb
        rw [he, un l hr] at this
        cases this
      have hfree2 : ∀ k ok, ops[k]? = some ok → k ≠ i → (l.setIfInBounds j true).getD k true = false → (∀ e ∈ ok.after, Region.binds md e = true → e.on ≠ i) → o.apart ops ok = true := fun k ok hk hki hun hn => by
        refine hfree k ok hk hki ?_ hn
        by_cases hjk : j = k
        · subst hjk
          exact hju
        · rwa [getD_set_ne true hjk] at hun
      have hap := hfree j p hp e hju hno
      have h0 := H.2 j (ready_mono hj e)
      by_cases hjs : j = s
      · have h1 := wpOp_mono (fun b u k => k.1 hjs) h0
        have h2 := wpOp_putIf hp hap (fun cs b => sel i o cs b hi) (fun cs b => sel j p cs b hp) hQ hz h1
        refine wpOp_mono (fun b u h3 => ⟨fun _ => ⟨h3.2.1, wpAnyH_first hi sel hQ n _ _ _ hfree2 (ready_mono hr (Ne.symm e)) h3.1 h3.2.1 ?_⟩, fun k => absurd hjs k⟩) h2
        rw [Array.setIfInBounds_comm _ _ e]
        exact h3.2.2
      · have h1 := wpOp_mono (fun b u k => k.2 hjs) h0
        have h2 := wpOp_putIf (S := fun u => S u ∨ T u) hp hap (fun cs b => sel i o cs b hi) (fun cs b => sel j p cs b hp) hQ
          (hy.elim (fun ⟨q1, q2⟩ => hz.elim (fun ⟨_, q3⟩ => .inl ⟨q1, fun w k => k.elim (q2 w) (q3 w)⟩) (fun ⟨q3, _⟩ => by rw [q1] at q3; cases q3)) (fun k => .inr k)) h1
        refine wpOp_mono (fun b u h3 => ⟨fun k => absurd k hjs, fun _ => ⟨h3.2.1, ih (l.setIfInBounds j true) b u hfree2 (ready_mono hr (Ne.symm e)) (h3.1.imp (fun ⟨q1, q2⟩ => ⟨q1, fun w k => q2 w (.inl k)⟩) id) (h3.1.imp (fun ⟨q1, q2⟩ => ⟨q1, fun w k => q2 w (.inr k)⟩) id) h3.2.1 ?_⟩⟩) h2
        rw [Array.setIfInBounds_comm _ _ e]
        exact h3.2.2
theorem ordU_take2 {i : Nat} {o : Oper} {v : Value} {n : Nat} {l : Array Bool} {a : Act} {w : World} (hi : ops[i]? = some o) (hns : Region.noSelect ops = true) (hf : Region.free md ops l i = true) (hr : (Region.ready md ops l).contains i = true) (his : i ≠ s)
    (hQ : ∀ c a w, Q (.panic c) (a.put o.dst v) w → Q (.panic c) a w) (hy : YieldsIf P ops S o v a) (hz : YieldsIf P ops T o v a) (hS : S w) (h : ordU P md ops Q S T s n (l.setIfInBounds i true) (a.put o.dst v) w) : ordU P md ops Q S T s (n + 1) l a w :=
  ordU_first2 hi hns hQ his n l a w (Region.free_spec hi hf) (by simpa using hr) hy hz hS h
/-- Each of the operations comes up next. -/
def ReadyU (P : Program) (md : Region.Mode) (ops : Array Oper) (Q : Exit → Act → World → Prop) (S T : World → Prop) (s n : Nat) (l : Array Bool) (a : Act) (w : World) (rs : List Nat) : Prop :=
  ∀ i ∈ rs, wpOp P ops Q i (fun b u => (i = s → T u ∧ wpAnyH P md ops Q T n (l.setIfInBounds i true) b u) ∧ (i ≠ s → S u ∧ ordU P md ops Q S T s n (l.setIfInBounds i true) b u)) a w
theorem ReadyU.nil {n : Nat} {l : Array Bool} {a : Act} {w : World} : ReadyU P md ops Q S T s n l a w [] := fun _ h => by cases h
theorem ReadyU.cons {n i : Nat} {o : Oper} {rs : List Nat} {l : Array Bool} {a : Act} {w : World} (ho : ops[i]? = some o) (his : i ≠ s)
    (h : ∀ K : Act → World → Prop, Shut (∀ a w, S w → (S w → ordU P md ops Q S T s n (l.setIfInBounds i true) a w) → K a w) → if Region.wanted o (yielded ops a.tmps) = true then Oper.wp P o a w K Q else K (a.put o.dst undef) w)
    (hs : ReadyU P md ops Q S T s n l a w rs) : ReadyU P md ops Q S T s n l a w (i :: rs) := fun j hj => by
  rcases List.mem_cons.1 hj with rfl | hj
  · exact wpOp_step ho (fun K hK => h K (fun a w hS hW => hK a w ⟨fun e => absurd e his, fun _ => ⟨hS, hW hS⟩⟩))
  · exact hs j hj
theorem ordU_ready {rs : List Nat} {n : Nat} {l : Array Bool} {a : Act} {w : World} (hr : Region.ready md ops l = rs) (hne : rs ≠ []) (h : ReadyU P md ops Q S T s n l a w rs) : ordU P md ops Q S T s (n + 1) l a w :=
  ⟨fun h0 => absurd (hr ▸ h0) hne, hr ▸ h⟩
/-- Number s comes up: from here on T alone. -/
theorem ordU_at {n : Nat} {l : Array Bool} {a : Act} {w : World} (hr : Region.ready md ops l = [s]) (h : wpAnyH P md ops Q T (n + 1) l a w) : ordU P md ops Q S T s (n + 1) l a w := by
  refine ⟨fun h0 => absurd (hr.symm.trans h0) (by simp), fun i hi => ?_⟩
  have := h.2 i hi
  rw [hr] at hi
  obtain rfl : i = s := by simpa using hi
  exact wpOp_mono (fun b u k => ⟨fun _ => k, fun e => absurd rfl e⟩) this
theorem at_ordU {n : Nat} {l : Array Bool} {a : Act} {w : World} (R : World → Prop) (h : R w) (k : ∀ V, R V → ordU P md ops Q S T s n l a V) : ordU P md ops Q S T s n l a w := k w h
theorem region_ordU {id : Nat} {a : Act} {w : World} (T : World → Prop) (s : Nat) (hm : P.follows .mixedOrders = true) (hS : S w.drew)
    (h : S w.drew → ordU P .any ops Q S T s ops.size (Array.replicate ops.size false) a w.drew) : (Code.region id ops true).wp P Q a w :=
  wp_region_any hm (ordU_any _ _ _ _ (h hS))
end
end Go.Proofs.Ytaaamcleilpnhaa
namespace Go.Proofs.Ytaaamcleilpnhaa
open Go.RowKit
theorem GB.weak {F F' : Nat → Prop} {V W : World} (h : GB F V W) (hF : ∀ k, F k → F' k) : GB F' V W := ⟨h.os, h.tape, h.output, h.size, fun k hk hn => h.block k hk (fun hf => hn (hF k hf))⟩
theorem FD.call {W W' : World} {B ca cq : Nat} {A Q : Option Addr} {l : List CkR} {L : List Qr} (h : FD W B A ca l Q cq L) (hb : Below W.heap.size W W') : FD W' B A ca l Q cq L := h.keep hb
theorem FD.al {W : World} {B ca cq : Nat} {A Q : Option Addr} {l : List CkR} {L : List Qr} (h : FD W B A ca l Q cq L) (o : Obj) : FD (W.alloc o) B A ca l Q cq L := h.keep (below_al (Below.refl _ _) _)
/-- What a query that has an answer gives. -/
theorem PutQ.yes {D : List CkD} {qs : List Qr} {q0 q : Qr} {w w' : World} {e : Ending} (h : PutQ D qs q0 w e w') (hE : Ak.putE D qs.length q0 = 0) (hT : Ak.told D q0 = q) :
    ∃ (A : Option Addr) (m ca : Nat) (Q : Option Addr) (n cq : Nat) (l : List CkR), e = .returned (.tuple #[.agg #[.slice A m ca, .slice Q n cq], .agg #[.int .i64 q.x, .int .i64 q.y], .int .i64 0]) ∧ Below w.heap.size w w' ∧ m = l.length ∧ n = (qs ++ [q]).length ∧ l.map Ak.dat = D ∧ FD w' w.heap.size A ca l Q cq (qs ++ [q]) := by
  obtain ⟨hb, ⟨hn, _⟩ | ⟨_, A, ca, l, Q, cq, he, hd, hf⟩⟩ := h
  · exact absurd hE hn
  · rw [hT] at he hf
    exact ⟨A, l.length, ca, Q, _, cq, l, he, hb, rfl, rfl, hd, hf⟩
theorem chwhole_any (n : Int) (w : World) : Calls Try.prog 108 #[.int .i64 n] w fun e w' => e = .returned (.agg #[.int .i64 n, .int .i64 1]) ∧ Below w.heap.size w w' := by
  go_enter Try.func108, Try.ntmps108
  go_wp2
  exact bodyPost_ret (v := .agg #[.int .i64 n, .int .i64 1]) (by simp [results, Try.results108, go_sem]) rfl ⟨rfl, (Below.refl _ _).alloc (Nat.le_refl _) _⟩
theorem chother_any (k j : Int) (h : (k = 0 ∧ j = 1) ∨ (k = 1 ∧ j = 0)) (w : World) : Calls Try.prog 109 #[.int .i64 k] w fun e w' => e = .returned (.int .i64 j) ∧ Below w.heap.size w w' := by
  rcases h with ⟨rfl, rfl⟩ | ⟨rfl, rfl⟩
  all_goals
    go_enter Try.func109, Try.ntmps109
    go_wp2
    go_ret
    exact ⟨rfl, Below.refl _ _⟩
set_option linter.unusedSimpArgs false in
set_option maxHeartbeats 8000000 in
set_option maxRecDepth 100000 in
theorem chhalf_any (A : Option Addr) (ca : Nat) (cs : List CkR) (Q : Option Addr) (m cq k : Nat) (w : World) (h : IsCs w A cs) (hm : m ≤ maxLen) (hc : Ak.chkS (cs.map Ak.dat) m = 0) (hk : k < cs.length) :
    Calls Try.prog 123 #[.agg #[.slice A cs.length ca, .slice Q m cq], .int .i64 k] w fun e w' => e = .returned (.agg #[.int .i64 (Ch.hf (Ak.dAt (cs.map Ak.dat) k)).1, .int .i64 (Ch.hf (Ak.dAt (cs.map Ak.dat) k)).2.1]) ∧ Below w.heap.size w w' := by
  have hgd := Ak.chkS_good hc
  have hck := hgd.all (Ak.dat (Ak.cat cs k)) (List.mem_map_of_mem (Ak.cat_mem hk))
  have tt := fun v (hv : Below w.heap.size w v) => askTotal_good A ca cs Q m cq k v (h.keep hv) hm hc hk
  rw [Ak.dAt_map cs hk]
  have ht : Ck.totS (Ak.cat cs k).len (Ak.cat cs k).cuts (Ak.cat cs k).dens = (Ck.tot (Ak.cat cs k).cuts (Ak.cat cs k).dens (Ak.cat cs k).dens.length, 0) := by
    unfold Ck.totS
    rw [if_pos (show Ck.chk (Ak.cat cs k).len (Ak.cat cs k).cuts (Ak.cat cs k).dens = 0 from hck)]
  rw [ht] at tt
  have hG := Ck.chk_good (show Ck.chk _ _ _ = 0 from hck)
  have t0 := (Ck.tot_bd hG _ (Nat.le_refl _)).1
  have t1 := (Ck.tot_bd hG _ (Nat.le_refl _)).2
  have l1 := hG.len1
  have la := hG.last
  have hf : Ch.hf (Ak.dat (Ak.cat cs k)) = Rp.makeS (Ck.tot (Ak.cat cs k).cuts (Ak.cat cs k).dens (Ak.cat cs k).dens.length) 2 := rfl
  dsimp only [Ak.dat] at l1 la t0 t1
  dsimp only at tt
  rw [hf]
  have t2 : Ck.tot (Ak.cat cs k).cuts (Ak.cat cs k).dens (Ak.cat cs k).dens.length ≤ 12000 := by omega
  clear hf ht la l1 t1 hG hck hgd
  generalize Ck.tot (Ak.cat cs k).cuts (Ak.cat cs k).dens (Ak.cat cs k).dens.length = T at *
  have mk := fun v => Make_any T 2 (by omega) (by omega) (by decide) (by decide) v
  generalize Rp.makeS T 2 = M at *
  obtain ⟨M1, M2, M3⟩ := M
  dsimp only at mk ⊢
  have TT := Lib.hid tt
  have MK := Lib.hid mk
  clear tt mk h hm hc hk t0 t2
  go_enter Try.func123, Try.ntmps123
  go_upto_region 1 with fail
  refine at_worldQ (fun v => Below w.heap.size w v ∧ BK v (w.heap.size) [.slice A cs.length ca, .slice Q m cq] ∧ BK v (w.heap.size + 1) [.int .i64 0, .int .i64 0] ∧ v.heap.size = w.heap.size + 2) ⟨(below_al (below_al (Below.refl _ _) _) _), (by have b := ((BK.new w [.slice A cs.length ca, .slice Q m cq] 49).al (.cells #[.int .i64 0, .int .i64 0] 23)); simpa only [World.size_alloc] using b), (by have b := (BK.new (w.alloc (.cells #[.slice A cs.length ca, .slice Q m cq] 49)) [.int .i64 0, .int .i64 0] 23); simpa only [World.size_alloc] using b), by simp only [World.size_alloc]⟩ (fun V hS => ?_)
  obtain ⟨hbb, B0, B1, hVs⟩ := hS
  have p0 := B0.c 0 rfl
  have p1 := B0.c 1 rfl
  go_wp2_with fail
  refine (TT.out _ hbb).mono ?_
  rintro e w1 ⟨rfl, hb⟩
  clear p0 p1
  replace hbb := keepB hbb hb
  replace B1 := B1.keep hb
  clear hb B0
  go_wp2_with fail
  refine (MK.out _).mono ?_
  rintro e w2 ⟨rfl, hb⟩
  replace hbb := keepB hbb hb
  replace B1 := B1.keep hb
  clear hb
  go_upto_region 3 with fail
  refine at_worldQ (fun v => Below w.heap.size w v ∧ BK v (w.heap.size + 1) [.int .i64 0, .int .i64 0] ∧ BK v w2.heap.size [.int .i64 M1, .int .i64 M2]) ⟨below_al hbb _, B1.al _, BK.new _ _ _⟩ (fun V3 hS => ?_)
  have hw2 := hbb.size
  clear hbb B1
  obtain ⟨hbb, B1, B2⟩ := hS
  have a0 := B2.c 0 rfl
  have a1 := B2.c 1 rfl
  have r0 := B1.c 0 rfl
  have r1 := B1.c 1 rfl
  have g0 := B1.f 0 rfl
  have g1 := B1.f 1 rfl
  go_wp2_with fail
  exact bodyPost_ret (v := .agg #[.int .i64 M1, .int .i64 M2]) (by simp [results, Try.results123, go_sem, r0, r1]) rfl ⟨rfl, by repeat (first | exact hbb | refine below_set ?_ (by omega) _)⟩
end Go.Proofs.Ytaaamcleilpnhaa
namespace Go.Proofs.Ytaaamcleilpnhaa
open Go.RowKit
/-- A state that a step gives. -/
def StQ (D : List CkD) (L : List Qr) (k s x y : Int) (b : Bool) (w : World) (e : Ending) (w' : World) : Prop :=
  ∃ (A : Option Addr) (m ca : Nat) (Q : Option Addr) (n cq : Nat) (l : List CkR), e = .returned (.agg #[.slice A m ca, .slice Q n cq, .int .i64 k, .int .i64 s, .int .i64 x, .int .i64 y, .bool b]) ∧ Below w.heap.size w w' ∧ m = l.length ∧ n = L.length ∧ l.map Ak.dat = D ∧ FD w' w.heap.size A ca l Q cq L
set_option linter.unusedSimpArgs false in
set_option maxHeartbeats 8000000 in
set_option maxRecDepth 100000 in
theorem afterCut_good (A : Option Addr) (ca : Nat) (cs : List CkR) (Q : Option Addr) (qs : List Qr) (cq : Nat) (k : Nat) (st x y : Int) (b : Bool) (h1 h2 : Int) (q : Qr) (w : World) (h : IsCs w A cs) (hq : IsQs w Q qs) (hc : Ak.chkS (cs.map Ak.dat) qs.length = 0) (hk : k < cs.length) (hh : Ch.hf (Ak.dAt (cs.map Ak.dat) k) = (h1, h2, 0)) (b1 : I64 h1) (b2 : I64 h2)
    (hE : Ak.putE (cs.map Ak.dat) qs.length ⟨k, 2, 0, 1, h1, h2, 0, 0⟩ = 0) (hT : Ak.told (cs.map Ak.dat) ⟨k, 2, 0, 1, h1, h2, 0, 0⟩ = q) :
    Calls Try.prog 110 #[.agg #[.slice A cs.length ca, .slice Q qs.length cq, .int .i64 k, .int .i64 st, .int .i64 x, .int .i64 y, .bool b]] w (StQ (cs.map Ak.dat) (qs ++ [q]) k 1 q.x q.y b w) := by
  have hlc := h.len
  unfold maxLen at hlc
  have mk := fun v (hv : Below w.heap.size w v) => askMark_any A ca cs Q qs cq k 0 1 h1 h2 v (h.keep hv) (hq.keep hv) ⟨by omega, by omega⟩ ⟨by decide, by decide⟩ ⟨by decide, by decide⟩ b1 b2
  have hf := fun v (hv : Below w.heap.size w v) => chhalf_any A ca cs Q qs.length cq k v (h.keep hv) hq.len hc hk
  rw [hh] at hf
  dsimp only at hf
  have wh := fun v => chwhole_any 0 v
  generalize cs.map Ak.dat = D at *
  have HE := Lib.hid hE
  have HT := Lib.hid hT
  have MK := Lib.hid mk
  have HF := Lib.hid hf
  have WH := Lib.hid wh
  clear mk hf wh hE hT h hq hc hh b1 b2 hk
  unfold StQ
  obtain ⟨qx, hqx⟩ : ∃ z, q.x = z := ⟨_, rfl⟩
  obtain ⟨qy, hqy⟩ : ∃ z, q.y = z := ⟨_, rfl⟩
  have HQX := Lib.hid hqx
  have HQY := Lib.hid hqy
  rw [hqx, hqy]
  clear hqx hqy
  go_enter Try.func110, Try.ntmps110
  go_upto_region 1 with fail
  refine at_worldQ (fun v => Below w.heap.size w v ∧ BK v (w.heap.size) [.slice A cs.length ca, .slice Q qs.length cq, .int .i64 k, .int .i64 st, .int .i64 x, .int .i64 y, .bool b] ∧ BK v (w.heap.size + 1) [.slice none 0 0, .slice none 0 0, .int .i64 0, .int .i64 0, .int .i64 0, .int .i64 0, .bool false] ∧ v.heap.size = w.heap.size + 2) ⟨(below_al (below_al (Below.refl _ _) _) _), (by have b := ((BK.new w [.slice A cs.length ca, .slice Q qs.length cq, .int .i64 k, .int .i64 st, .int .i64 x, .int .i64 y, .bool b] 72).al (.cells #[.slice none 0 0, .slice none 0 0, .int .i64 0, .int .i64 0, .int .i64 0, .int .i64 0, .bool false] 72)); simpa only [World.size_alloc] using b), (by have b := (BK.new (w.alloc (.cells #[.slice A cs.length ca, .slice Q qs.length cq, .int .i64 k, .int .i64 st, .int .i64 x, .int .i64 y, .bool b] 72)) [.slice none 0 0, .slice none 0 0, .int .i64 0, .int .i64 0, .int .i64 0, .int .i64 0, .bool false] 72); simpa only [World.size_alloc] using b), by simp only [World.size_alloc]⟩ (fun V hS => ?_)
  obtain ⟨hbb, B0, B1, hVs⟩ := hS
  have p0 := B0.c 0 rfl
  have p1 := B0.c 1 rfl
  have p2 := B0.c 2 rfl
  refine wp_region_noPanic ?_
  refine region_ordU (S := (GB (fun _ => False) V)) (GB (fun k => k = w.heap.size) V) 16 (by kernel_rfl) ((GB.refl _ _).drew) (fun hHeld => ?_)
  refine at_ordU (fun v => GB (fun _ => False) V v) hHeld (fun wu0 hNew => ?_)
  clear hHeld
  have hHeld := hNew
  clear hNew
  refine ordU_take (i := 0) (o := _) (v := ?vu1) rfl (by kernel_rfl) (by kernel_rfl) (by kernel_rfl) (by kernel_rfl) (fun _ _ _ h => h) (Or.inl ⟨by kernel_rfl, ?hyu1⟩) hHeld ?restu1
  case hyu1 => (intro w hSw; go_simp; first | done | (with_reducible rfl))
  try simp only [Act.put, PA, PB]
  refine ordU_take (i := 1) (o := _) (v := ?vu2) rfl (by kernel_rfl) (by kernel_rfl) (by kernel_rfl) (by kernel_rfl) (fun _ _ _ h => h) (Or.inl ⟨by kernel_rfl, ?hyu2⟩) hHeld ?restu2
  case hyu2 => (intro w hSw; have kp0 := hSw.cell (fun h => h) p0; have kp1 := hSw.cell (fun h => h) p1; have kp2 := hSw.cell (fun h => h) p2; go_simp; first | done | (with_reducible rfl))
  try simp only [Act.put, PA, PB]
  refine ordU_take (i := 2) (o := _) (v := ?vu3) rfl (by kernel_rfl) (by kernel_rfl) (by kernel_rfl) (by kernel_rfl) (fun _ _ _ h => h) (Or.inl ⟨by kernel_rfl, ?hyu3⟩) hHeld ?restu3
  case hyu3 => (intro w hSw; go_simp; first | done | (with_reducible rfl))
  try simp only [Act.put, PA, PB]
  refine ordU_take (i := 3) (o := _) (v := ?vu4) rfl (by kernel_rfl) (by kernel_rfl) (by kernel_rfl) (by kernel_rfl) (fun _ _ _ h => h) (Or.inl ⟨by kernel_rfl, ?hyu4⟩) hHeld ?restu4
  case hyu4 => (intro w hSw; have kp0 := hSw.cell (fun h => h) p0; have kp1 := hSw.cell (fun h => h) p1; have kp2 := hSw.cell (fun h => h) p2; go_simp; first | done | (with_reducible rfl))
  try simp only [Act.put, PA, PB]
  refine ordU_take (i := 5) (o := _) (v := ?vu5) rfl (by kernel_rfl) (by kernel_rfl) (by kernel_rfl) (by kernel_rfl) (fun _ _ _ h => h) (Or.inl ⟨by kernel_rfl, ?hyu5⟩) hHeld ?restu5
  case hyu5 => (intro w hSw; go_simp; first | done | (with_reducible rfl))
  try simp only [Act.put, PA, PB]
  refine ordU_take (i := 6) (o := _) (v := ?vu6) rfl (by kernel_rfl) (by kernel_rfl) (by kernel_rfl) (by kernel_rfl) (fun _ _ _ h => h) (Or.inl ⟨by kernel_rfl, ?hyu6⟩) hHeld ?restu6
  case hyu6 => (intro w hSw; have kp0 := hSw.cell (fun h => h) p0; have kp1 := hSw.cell (fun h => h) p1; have kp2 := hSw.cell (fun h => h) p2; go_simp; first | done | (with_reducible rfl))
  try simp only [Act.put, PA, PB]
  refine ordU_take (i := 7) (o := _) (v := ?vu7) rfl (by kernel_rfl) (by kernel_rfl) (by kernel_rfl) (by kernel_rfl) (fun _ _ _ h => h) (Or.inl ⟨by kernel_rfl, ?hyu7⟩) hHeld ?restu7
  case hyu7 => (intro w hSw; go_simp; first | done | (with_reducible rfl))
  try simp only [Act.put, PA, PB]
  refine ordU_take (i := 8) (o := _) (v := ?vu8) rfl (by kernel_rfl) (by kernel_rfl) (by kernel_rfl) (by kernel_rfl) (fun _ _ _ h => h) (Or.inl ⟨by kernel_rfl, ?hyu8⟩) hHeld ?restu8
  case hyu8 => (intro w hSw; have kp0 := hSw.cell (fun h => h) p0; have kp1 := hSw.cell (fun h => h) p1; have kp2 := hSw.cell (fun h => h) p2; go_simp; first | done | (with_reducible rfl))
  try simp only [Act.put, PA, PB]
  refine ordU_ready (rs := [4]) (by kernel_rfl) (by simp) (ReadyU.cons (o := _) rfl (by decide) (fun K hK => ?_) ReadyU.nil)
  go_simp
  refine (WH.out _).mono ?_
  rintro e wu9 ⟨rfl, hb3⟩
  go_wp2_with fail
  refine hK.out _ _ (hHeld.below hb3) (fun hNew => ?_)
  clear hb3
  clear hHeld hK K
  have hHeld := hNew
  clear hNew
  try simp only [Act.put, PA, PB]
  refine ordU_ready (rs := [9]) (by kernel_rfl) (by simp) (ReadyU.cons (o := _) rfl (by decide) (fun K hK => ?_) ReadyU.nil)
  go_simp
  refine (HF.out _ (hHeld.toBelow hbb (fun k hk => hk.elim) (by omega))).mono ?_
  rintro e wu10 ⟨rfl, hb3⟩
  go_wp2_with fail
  refine hK.out _ _ (hHeld.below hb3) (fun hNew => ?_)
  clear hb3
  clear hHeld hK K
  have hHeld := hNew
  clear hNew
  try simp only [Act.put, PA, PB]
  refine ordU_ready (rs := [10]) (by kernel_rfl) (by simp) (ReadyU.cons (o := _) rfl (by decide) (fun K hK => ?_) ReadyU.nil)
  go_simp
  refine (MK.out _ (hHeld.toBelow hbb (fun k hk => hk.elim) (by omega))).mono ?_
  rintro e wu11 hput
  obtain ⟨A2, m2, ca2, Q2, n2, cq2, l2, rfl, hb3, hm2, hn2, hd2, hfd⟩ := hput.yes HE.out HT.out
  have HM2 := Lib.hid hm2
  have HN2 := Lib.hid hn2
  have HD2 := Lib.hid hd2
  clear hm2 hn2 hd2
  rw [HQX.out, HQY.out]
  have hm := Mid.refl wu10.heap.size wu11
  have hvw := hHeld.size
  go_wp2_with fail
  refine hK.out _ _ (hHeld.below hb3) (fun hNew => ?_)
  clear hb3
  clear hHeld hK K
  have hHeld := hNew
  clear hNew
  try simp only [Act.put, PA, PB]
  refine ordU_take (i := 11) (o := _) (v := ?vu12) rfl (by kernel_rfl) (by kernel_rfl) (by kernel_rfl) (by kernel_rfl) (fun _ _ _ h => h) (Or.inl ⟨by kernel_rfl, ?hyu12⟩) hHeld ?restu12
  case hyu12 => (intro w hSw; go_simp; first | done | (with_reducible rfl))
  try simp only [Act.put, PA, PB]
  refine ordU_take (i := 12) (o := _) (v := ?vu13) rfl (by kernel_rfl) (by kernel_rfl) (by kernel_rfl) (by kernel_rfl) (fun _ _ _ h => h) (Or.inl ⟨by kernel_rfl, ?hyu13⟩) hHeld ?restu13
  case hyu13 => (intro w hSw; go_simp; first | done | (with_reducible rfl))
  try simp only [Act.put, PA, PB]
  refine ordU_take2 (i := 13) (o := _) (v := ?vu14) rfl (by kernel_rfl) (by kernel_rfl) (by kernel_rfl) (by decide) (fun  _ _ _ h => h) (Or.inl ⟨by kernel_rfl, ?hyu14⟩) (Or.inl ⟨by kernel_rfl, ?hzu14⟩) hHeld ?restu14
  case hyu14 => (intro w hSw; go_simp; first | done | (with_reducible rfl))
  case hzu14 => (intro w hSw; go_simp; first | done | (with_reducible rfl))
  try simp only [Act.put, PA, PB]
  refine ordU_take2 (i := 14) (o := _) (v := ?vu15) rfl (by kernel_rfl) (by kernel_rfl) (by kernel_rfl) (by decide) (fun  _ _ _ h => h) (Or.inl ⟨by kernel_rfl, ?hyu15⟩) (Or.inl ⟨by kernel_rfl, ?hzu15⟩) hHeld ?restu15
  case hyu15 => (intro w hSw; go_simp; first | done | (with_reducible rfl))
  case hzu15 => (intro w hSw; go_simp; first | done | (with_reducible rfl))
  try simp only [Act.put, PA, PB]
  refine ordU_take (i := 15) (o := _) (v := ?vu16) rfl (by kernel_rfl) (by kernel_rfl) (by kernel_rfl) (by kernel_rfl) (fun _ _ _ h => h) (Or.inl ⟨by kernel_rfl, ?hyu16⟩) hHeld ?restu16
  case hyu16 => (intro w hSw; go_simp; first | done | (with_reducible rfl))
  try simp only [Act.put, PA, PB]
  refine ordU_at (by kernel_rfl) ?_
  replace B0 := B0.gb hHeld (fun h => h)
  replace hHeld : GB (fun k => k = w.heap.size) V wu11 := hHeld.weak (fun k hk => hk.elim)
  refine wpAnyH_ready (rs := [16]) (by kernel_rfl) (by simp) (AllReadyH.cons (o := _) rfl (fun K hK => ?_) AllReadyH.nil)
  have n0 := B0.c 0 rfl
  have f0 := B0.f 0 rfl
  have n1 := B0.c 1 rfl
  have f1 := B0.f 1 rfl
  go_simp
  clear n0 f0 n1 f1
  refine hK.out _ _ ((hHeld.set (.inl rfl) _).set (.inl rfl) _) (fun hNew => ?_)
  clear hHeld hK K
  have hHeld := hNew
  clear hNew
  try simp only [Act.put, PA, PB]
  refine at_anyH (fun v => GB (fun k => k = w.heap.size) V v ∧ BK v (w.heap.size) [.slice A2 m2 ca2, .slice Q2 n2 cq2, .int .i64 k, .int .i64 st, .int .i64 x, .int .i64 y, .bool b] ∧ Mid wu10.heap.size wu11 v) ⟨hHeld, ((B0.set 0 _).set 1 _), ((hm.set (by omega) _).set (by omega) _)⟩ (fun wu17 hS => ?_)
  clear hHeld B0 hm
  obtain ⟨hHeld, B0, hm⟩ := hS
  refine wpAnyH_take (i := 17) (oi := _) (v := ?vu18) rfl (by kernel_rfl) (by kernel_rfl) (by kernel_rfl) (fun _ _ _ h => h) (Or.inl ⟨by kernel_rfl, ?hyu18⟩) hHeld ?restu18
  case hyu18 => (intro w hSw; go_simp; first | done | (with_reducible rfl))
  try simp only [Act.put, PA, PB]
  refine wpAnyH_ready (rs := [18]) (by kernel_rfl) (by simp) (AllReadyH.cons (o := _) rfl (fun K hK => ?_) AllReadyH.nil)
  have n0 := B0.c 4 rfl
  have f0 := B0.f 4 rfl
  have n1 := B0.c 5 rfl
  have f1 := B0.f 5 rfl
  go_simp
  clear n0 f0 n1 f1
  refine hK.out _ _ ((hHeld.set (.inl rfl) _).set (.inl rfl) _) (fun hNew => ?_)
  clear hHeld hK K
  have hHeld := hNew
  clear hNew
  try simp only [Act.put, PA, PB]
  refine at_anyH (fun v => GB (fun k => k = w.heap.size) V v ∧ BK v (w.heap.size) [.slice A2 m2 ca2, .slice Q2 n2 cq2, .int .i64 k, .int .i64 st, .int .i64 qx, .int .i64 qy, .bool b] ∧ Mid wu10.heap.size wu11 v) ⟨hHeld, ((B0.set 4 _).set 5 _), ((hm.set (by omega) _).set (by omega) _)⟩ (fun wu19 hS => ?_)
  clear hHeld B0 hm
  obtain ⟨hHeld, B0, hm⟩ := hS
  refine wpAnyH_done (by kernel_rfl) ?_ _
  refine NoPanic.normal ?_
  have hbb2 := hHeld.toBelow hbb (fun k hk => by omega) (by omega)
  have B1 := B1.gb hHeld (by omega)
  have hfd2 := hfd.mid hm
  have hlt := B1.lt
  clear hfd
  have xa0 := B0.c 0 rfl
  have xa1 := B0.c 1 rfl
  have xa2 := B0.c 2 rfl
  have xa3 := B0.c 3 rfl
  have xa4 := B0.c 4 rfl
  have xa5 := B0.c 5 rfl
  have xa6 := B0.c 6 rfl
  have xb0 := B0.f 0 rfl
  have xb1 := B0.f 1 rfl
  have xb2 := B0.f 2 rfl
  have xb3 := B0.f 3 rfl
  have xb4 := B0.f 4 rfl
  have xb5 := B0.f 5 rfl
  have xb6 := B0.f 6 rfl
  have ya0 := B1.c 0 rfl
  have ya1 := B1.c 1 rfl
  have ya2 := B1.c 2 rfl
  have ya3 := B1.c 3 rfl
  have ya4 := B1.c 4 rfl
  have ya5 := B1.c 5 rfl
  have ya6 := B1.c 6 rfl
  have yb0 := B1.f 0 rfl
  have yb1 := B1.f 1 rfl
  have yb2 := B1.f 2 rfl
  have yb3 := B1.f 3 rfl
  have yb4 := B1.f 4 rfl
  have yb5 := B1.f 5 rfl
  have yb6 := B1.f 6 rfl
  go_wp2_with fail
  exact bodyPost_ret (v := .agg #[.slice A2 m2 ca2, .slice Q2 n2 cq2, .int .i64 k, .int .i64 1, .int .i64 qx, .int .i64 qy, .bool b]) (by simp [results, Try.results110, go_sem, ya0, ya1, ya2, ya3, ya4, ya5, ya6]) rfl ⟨A2, m2, ca2, Q2, n2, cq2, l2, rfl, (below_set (below_set (below_set (below_set (below_set (below_set (below_set (below_set hbb2 (by omega) _) (by omega) _) (by omega) _) (by omega) _) (by omega) _) (by omega) _) (by omega) _) (by omega) _), HM2.out, HN2.out, HD2.out, (((((((((hfd2.set (by omega) _).set (by omega) _).set (by omega) _).set (by omega) _).set (by omega) _).set (by omega) _).set (by omega) _).set (by omega) _).mono (by omega))⟩
end Go.Proofs.Ytaaamcleilpnhaa
namespace Go.Proofs.Ytaaamcleilpnhaa
open Go.RowKit
set_option linter.unusedSimpArgs false in
set_option maxHeartbeats 8000000 in
set_option maxRecDepth 100000 in
theorem afterChoice_good (A : Option Addr) (ca : Nat) (cs : List CkR) (Q : Option Addr) (qs : List Qr) (cq : Nat) (k : Nat) (st x y : Int) (b : Bool) (j : Nat) (h1 h2 z : Int) (q : Qr) (w : World) (h : IsCs w A cs) (hq : IsQs w Q qs) (hc : Ak.chkS (cs.map Ak.dat) qs.length = 0) (hk : (k = 0 ∧ j = 1) ∨ (k = 1 ∧ j = 0)) (hj : j < cs.length) (hx : I64 x) (hy : I64 y) (hh : Ch.hf (Ak.dAt (cs.map Ak.dat) j) = (h1, h2, 0))
    (hE : Ak.putE (cs.map Ak.dat) qs.length ⟨j, 1, 0, 1, x, y, 0, 0⟩ = 0) (hT : Ak.told (cs.map Ak.dat) ⟨j, 1, 0, 1, x, y, 0, 0⟩ = q) (hm : ∀ v, Calls Try.prog 92 #[.agg #[.int .i64 q.x, .int .i64 q.y], .agg #[.int .i64 h1, .int .i64 h2]] v fun e v' => e = .returned (.tuple #[.int .i64 z, .int .i64 0]) ∧ Below v.heap.size v v') :
    Calls Try.prog 111 #[.agg #[.slice A cs.length ca, .slice Q qs.length cq, .int .i64 k, .int .i64 st, .int .i64 x, .int .i64 y, .bool b]] w (StQ (cs.map Ak.dat) (qs ++ [q]) k 2 x y (decide (0 ≤ z)) w) := by
  have hlc := h.len
  unfold maxLen at hlc
  have vl := fun v (hv : Below w.heap.size w v) => askValue_any A ca cs Q qs cq j 0 1 x y v (h.keep hv) (hq.keep hv) ⟨by omega, by omega⟩ ⟨by decide, by decide⟩ ⟨by decide, by decide⟩ hx hy
  have hf := fun v (hv : Below w.heap.size w v) => chhalf_any A ca cs Q qs.length cq j v (h.keep hv) hq.len hc hj
  rw [hh] at hf
  dsimp only at hf
  have wh := fun v => chwhole_any 0 v
  have co := fun v => chother_any k j (by omega) v
  generalize cs.map Ak.dat = D at *
  obtain ⟨qx, hqx⟩ : ∃ z, q.x = z := ⟨_, rfl⟩
  obtain ⟨qy, hqy⟩ : ∃ z, q.y = z := ⟨_, rfl⟩
  have HQX := Lib.hid hqx
  have HQY := Lib.hid hqy
  rw [hqx, hqy] at hm
  have HE := Lib.hid hE
  have HT := Lib.hid hT
  have VL := Lib.hid vl
  have HF := Lib.hid hf
  have WH := Lib.hid wh
  have CO := Lib.hid co
  have CM := Lib.hid hm
  clear vl hf wh co hE hT h hq hc hh hx hy hj hk hqx hqy hm
  unfold StQ
  go_enter Try.func111, Try.ntmps111
  go_upto_region 1 with fail
  refine at_worldQ (fun v => Below w.heap.size w v ∧ BK v (w.heap.size) [.slice A cs.length ca, .slice Q qs.length cq, .int .i64 k, .int .i64 st, .int .i64 x, .int .i64 y, .bool b] ∧ BK v (w.heap.size + 1) [.slice none 0 0, .slice none 0 0, .int .i64 0, .int .i64 0, .int .i64 0, .int .i64 0, .bool false] ∧ v.heap.size = w.heap.size + 2) ⟨(below_al (below_al (Below.refl _ _) _) _), (by have b := ((BK.new w [.slice A cs.length ca, .slice Q qs.length cq, .int .i64 k, .int .i64 st, .int .i64 x, .int .i64 y, .bool b] 72).al (.cells #[.slice none 0 0, .slice none 0 0, .int .i64 0, .int .i64 0, .int .i64 0, .int .i64 0, .bool false] 72)); simpa only [World.size_alloc] using b), (by have b := (BK.new (w.alloc (.cells #[.slice A cs.length ca, .slice Q qs.length cq, .int .i64 k, .int .i64 st, .int .i64 x, .int .i64 y, .bool b] 72)) [.slice none 0 0, .slice none 0 0, .int .i64 0, .int .i64 0, .int .i64 0, .int .i64 0, .bool false] 72); simpa only [World.size_alloc] using b), by simp only [World.size_alloc]⟩ (fun V hS => ?_)
  obtain ⟨hbb, B0, B1, hVs⟩ := hS
  have p2 := B0.c 2 rfl
  go_wp2_with fail
  refine (CO.out _).mono ?_
  rintro e w1 ⟨rfl, hb⟩
  clear p2
  replace hbb := keepB hbb hb
  replace B0 := B0.keep hb
  replace B1 := B1.keep hb
  have hw1 := hb.size
  clear hb
  go_upto_region 2 with fail
  have hV0 : w.heap.size + 2 ≤ w1.heap.size := by omega
  clear hw1 hVs V
  refine at_worldQ (fun v => Below w.heap.size w v ∧ BK v w.heap.size [.slice A cs.length ca, .slice Q qs.length cq, .int .i64 k, .int .i64 st, .int .i64 x, .int .i64 y, .bool b] ∧ BK v (w.heap.size + 1) [.slice none 0 0, .slice none 0 0, .int .i64 0, .int .i64 0, .int .i64 0, .int .i64 0, .bool false] ∧ w.heap.size + 2 ≤ v.heap.size) ⟨hbb, B0, B1, hV0⟩ (fun V hS => ?_)
  clear hbb B0 B1 hV0
  obtain ⟨hbb, B0, B1, hV0⟩ := hS
  have p0 := B0.c 0 rfl
  have p1 := B0.c 1 rfl
  have p4 := B0.c 4 rfl
  have p5 := B0.c 5 rfl
  go_cut [4, 5] (fun x z v => ∃ (p4 p5 : Nat) (A2 : Option Addr) (m2 ca2 : Nat) (Q2 : Option Addr) (n2 cq2 : Nat) (l2 : List CkR), x = .pointer (some ⟨p4, 0, none⟩) ∧ z = .pointer (some ⟨p5, 0, none⟩) ∧ BK v p4 [.slice A2 m2 ca2, .slice Q2 n2 cq2] ∧ BK v p5 [.int .i64 qx, .int .i64 qy] ∧ V.heap.size ≤ p4 ∧ V.heap.size ≤ p5 ∧ m2 = l2.length ∧ n2 = (qs ++ [q]).length ∧ l2.map Ak.dat = D ∧ FD v V.heap.size A2 ca2 l2 Q2 cq2 (qs ++ [q]) ∧ Below V.heap.size V v)
  case first =>
    as_aux_lemma =>
      refine wp_region_held_drew (S := (GB (fun _ => False) V)) (by kernel_rfl) ((GB.refl _ _).drew) (fun hHeld => ?_)
      refine at_anyH (fun v => GB (fun _ => False) V v) hHeld (fun wc0 hNew => ?_)
      clear hHeld
      have hHeld := hNew
      clear hNew
      refine wpAnyH_take (i := 0) (oi := _) (v := ?vc1) rfl (by kernel_rfl) (by kernel_rfl) (by kernel_rfl) (fun _ _ _ h => h) (Or.inl ⟨by kernel_rfl, ?hyc1⟩) hHeld ?restc1
      case hyc1 => (intro w hSw; go_simp; first | done | (with_reducible rfl))
      try simp only [Act.put, PA, PB]
      refine wpAnyH_take (i := 1) (oi := _) (v := ?vc2) rfl (by kernel_rfl) (by kernel_rfl) (by kernel_rfl) (fun _ _ _ h => h) (Or.inl ⟨by kernel_rfl, ?hyc2⟩) hHeld ?restc2
      case hyc2 => (intro w hSw; have kp0 := hSw.cell (fun h => h) p0; have kp1 := hSw.cell (fun h => h) p1; have kp4 := hSw.cell (fun h => h) p4; have kp5 := hSw.cell (fun h => h) p5; go_simp; first | done | (with_reducible rfl))
      try simp only [Act.put, PA, PB]
      refine wpAnyH_take (i := 2) (oi := _) (v := ?vc3) rfl (by kernel_rfl) (by kernel_rfl) (by kernel_rfl) (fun _ _ _ h => h) (Or.inl ⟨by kernel_rfl, ?hyc3⟩) hHeld ?restc3
      case hyc3 => (intro w hSw; go_simp; first | done | (with_reducible rfl))
      try simp only [Act.put, PA, PB]
      refine wpAnyH_take (i := 4) (oi := _) (v := ?vc4) rfl (by kernel_rfl) (by kernel_rfl) (by kernel_rfl) (fun _ _ _ h => h) (Or.inl ⟨by kernel_rfl, ?hyc4⟩) hHeld ?restc4
      case hyc4 => (intro w hSw; go_simp; first | done | (with_reducible rfl))
      try simp only [Act.put, PA, PB]
      refine wpAnyH_take (i := 5) (oi := _) (v := ?vc5) rfl (by kernel_rfl) (by kernel_rfl) (by kernel_rfl) (fun _ _ _ h => h) (Or.inl ⟨by kernel_rfl, ?hyc5⟩) hHeld ?restc5
      case hyc5 => (intro w hSw; have kp0 := hSw.cell (fun h => h) p0; have kp1 := hSw.cell (fun h => h) p1; have kp4 := hSw.cell (fun h => h) p4; have kp5 := hSw.cell (fun h => h) p5; go_simp; first | done | (with_reducible rfl))
      try simp only [Act.put, PA, PB]
      refine wpAnyH_ready (rs := [3, 11, 12]) (by kernel_rfl) (by simp) (AllReadyH.cons (o := _) rfl (fun K hK => ?_) (AllReadyH.cons (o := _) rfl (fun K hK => ?_) (AllReadyH.cons (o := _) rfl (fun K hK => ?_) AllReadyH.nil)))
      ·
        go_simp
        refine (WH.out _).mono ?_
        rintro e wc6 ⟨rfl, hb3⟩
        go_wp2_with fail
        refine hK.out _ _ (hHeld.below hb3) (fun hNew => ?_)
        clear hb3
        clear hHeld hK K
        have hHeld := hNew
        clear hNew
        try simp only [Act.put, PA, PB]
        refine wpAnyH_ready (rs := [6, 11, 12]) (by kernel_rfl) (by simp) (AllReadyH.cons (o := _) rfl (fun K hK => ?_) (AllReadyH.cons (o := _) rfl (fun K hK => ?_) (AllReadyH.cons (o := _) rfl (fun K hK => ?_) AllReadyH.nil)))
        ·
          go_simp
          refine (VL.out _ (hHeld.toBelow hbb (fun k hk => hk.elim) (by omega))).mono ?_
          rintro e wc7 hput
          obtain ⟨A2, m2, ca2, Q2, n2, cq2, l2, rfl, hb3, hm2, hn2, hd2, hfd⟩ := hput.yes HE.out HT.out
          clear hput
          have HM2 := Lib.hid hm2
          have HN2 := Lib.hid hn2
          have HD2 := Lib.hid hd2
          clear hm2 hn2 hd2
          rw [HQX.out, HQY.out]
          have hm := Mid.refl wc6.heap.size wc7
          have hvw := hHeld.size
          go_wp2_with fail
          refine hK.out _ _ (hHeld.below hb3) (fun hNew => ?_)
          clear hb3
          clear hHeld hK K
          have hHeld := hNew
          clear hNew
          try simp only [Act.put, PA, PB]
          refine wpAnyH_take (i := 7) (oi := _) (v := ?vc8) rfl (by kernel_rfl) (by kernel_rfl) (by kernel_rfl) (fun _ _ _ h => h) (Or.inl ⟨by kernel_rfl, ?hyc8⟩) hHeld ?restc8
          case hyc8 => (intro w hSw; go_simp; first | done | (with_reducible rfl))
          try simp only [Act.put, PA, PB]
          refine wpAnyH_take (i := 8) (oi := _) (v := ?vc9) rfl (by kernel_rfl) (by kernel_rfl) (by kernel_rfl) (fun _ _ _ h => h) (Or.inl ⟨by kernel_rfl, ?hyc9⟩) hHeld ?restc9
          case hyc9 => (intro w hSw; go_simp; first | done | (with_reducible rfl))
          try simp only [Act.put, PA, PB]
          refine wpAnyH_take (i := 9) (oi := _) (v := ?vc10) rfl (by kernel_rfl) (by kernel_rfl) (by kernel_rfl) (fun _ _ _ h => h) (Or.inl ⟨by kernel_rfl, ?hyc10⟩) hHeld ?restc10
          case hyc10 => (intro w hSw; go_simp; first | done | (with_reducible rfl))
          try simp only [Act.put, PA, PB]
          refine wpAnyH_take (i := 10) (oi := _) (v := ?vc11) rfl (by kernel_rfl) (by kernel_rfl) (by kernel_rfl) (fun _ _ _ h => h) (Or.inl ⟨by kernel_rfl, ?hyc11⟩) hHeld ?restc11
          case hyc11 => (intro w hSw; go_simp; first | done | (with_reducible rfl))
          try simp only [Act.put, PA, PB]
          refine wpAnyH_ready (rs := [11, 12]) (by kernel_rfl) (by simp) (AllReadyH.cons (o := _) rfl (fun K hK => ?_) (AllReadyH.cons (o := _) rfl (fun K hK => ?_) AllReadyH.nil))
          ·
            go_simp
            refine hK.out _ _ (hHeld.al _) (fun hNew => ?_)
            have hX : V.heap.size ≤ wc7.heap.size := hHeld.size
            clear hHeld hK K
            have hHeld := hNew
            clear hNew
            try simp only [Act.put, PA, PB]
            have gXhm := hm.size
            refine at_anyH (fun v => GB (fun _ => False) V v ∧ BK v (wc7.heap.size) [.slice none 0 0, .slice none 0 0] ∧ Mid wc6.heap.size wc7 v) ⟨hHeld, BK.new _ _ _, hm.al _⟩ (fun wc12 hS => ?_)
            clear hHeld hm
            obtain ⟨hHeld, BX, hm⟩ := hS
            refine wpAnyH_ready (rs := [12]) (by kernel_rfl) (by simp) (AllReadyH.cons (o := _) rfl (fun K hK => ?_) AllReadyH.nil)
            go_simp
            refine hK.out _ _ (hHeld.al _) (fun hNew => ?_)
            have hY : V.heap.size ≤ wc12.heap.size := hHeld.size
            have dXY := BX.lt
            clear hHeld hK K
            have hHeld := hNew
            clear hNew
            try simp only [Act.put, PA, PB]
            have gYhm := hm.size
            refine at_anyH (fun v => GB (fun _ => False) V v ∧ BK v (wc7.heap.size) [.slice none 0 0, .slice none 0 0] ∧ BK v (wc12.heap.size) [.int .i64 0, .int .i64 0] ∧ Mid wc6.heap.size wc7 v) ⟨hHeld, BX.al _, BK.new _ _ _, hm.al _⟩ (fun wc13 hS => ?_)
            clear hHeld BX hm
            obtain ⟨hHeld, BX, BY, hm⟩ := hS
            refine wpAnyH_ready (rs := [13]) (by kernel_rfl) (by simp) (AllReadyH.cons (o := _) rfl (fun K hK => ?_) AllReadyH.nil)
            have n0 := BX.c 0 rfl
            have f0 := BX.f 0 rfl
            have n1 := BX.c 1 rfl
            have f1 := BX.f 1 rfl
            go_simp
            clear n0 f0 n1 f1
            refine hK.out _ _ ((hHeld.set (.inr hX) _).set (.inr hX) _) (fun hNew => ?_)
            clear hHeld hK K
            have hHeld := hNew
            clear hNew
            try simp only [Act.put, PA, PB]
            refine at_anyH (fun v => GB (fun _ => False) V v ∧ BK v (wc7.heap.size) [.slice A2 m2 ca2, .slice Q2 n2 cq2] ∧ BK v (wc12.heap.size) [.int .i64 0, .int .i64 0] ∧ Mid wc6.heap.size wc7 v) ⟨hHeld, ((BX.set 0 _).set 1 _), ((BY.far (by omega) _ _).far (by omega) _ _), ((hm.set (by omega) _).set (by omega) _)⟩ (fun wc14 hS => ?_)
            clear hHeld BX BY hm
            obtain ⟨hHeld, BX, BY, hm⟩ := hS
            refine wpAnyH_ready (rs := [14]) (by kernel_rfl) (by simp) (AllReadyH.cons (o := _) rfl (fun K hK => ?_) AllReadyH.nil)
            have n0 := BY.c 0 rfl
            have f0 := BY.f 0 rfl
            have n1 := BY.c 1 rfl
            have f1 := BY.f 1 rfl
            go_simp
            clear n0 f0 n1 f1
            refine hK.out _ _ ((hHeld.set (.inr hY) _).set (.inr hY) _) (fun hNew => ?_)
            clear hHeld hK K
            have hHeld := hNew
            clear hNew
            try simp only [Act.put, PA, PB]
            refine at_anyH (fun v => GB (fun _ => False) V v ∧ BK v (wc7.heap.size) [.slice A2 m2 ca2, .slice Q2 n2 cq2] ∧ BK v (wc12.heap.size) [.int .i64 qx, .int .i64 qy] ∧ Mid wc6.heap.size wc7 v) ⟨hHeld, ((BX.far (by omega) _ _).far (by omega) _ _), ((BY.set 0 _).set 1 _), ((hm.set (by omega) _).set (by omega) _)⟩ (fun wc15 hS => ?_)
            clear hHeld BX BY hm
            obtain ⟨hHeld, BX, BY, hm⟩ := hS
            refine wpAnyH_take (i := 15) (oi := _) (v := ?vc16) rfl (by kernel_rfl) (by kernel_rfl) (by kernel_rfl) (fun _ _ _ h => h) (Or.inl ⟨by kernel_rfl, ?hyc16⟩) hHeld ?restc16
            case hyc16 => (intro w hSw; go_simp; first | done | (with_reducible rfl))
            try simp only [Act.put, PA, PB]
            refine wpAnyH_done (by kernel_rfl) ?_ _
            go_wp2_with fail
            go_meet
            exact ⟨_, _, A2, m2, ca2, Q2, n2, cq2, l2, rfl, rfl, BX, BY, hX, hY, HM2.out, HN2.out, HD2.out, (hfd.mid hm).mono hvw, hHeld.toBelow (Below.refl _ _) (fun k hk => hk.elim) (Nat.le_refl _)⟩
          ·
            go_simp
            refine hK.out _ _ (hHeld.al _) (fun hNew => ?_)
            have hY : V.heap.size ≤ wc7.heap.size := hHeld.size
            clear hHeld hK K
            have hHeld := hNew
            clear hNew
            try simp only [Act.put, PA, PB]
            have gYhm := hm.size
            refine at_anyH (fun v => GB (fun _ => False) V v ∧ BK v (wc7.heap.size) [.int .i64 0, .int .i64 0] ∧ Mid wc6.heap.size wc7 v) ⟨hHeld, BK.new _ _ _, hm.al _⟩ (fun wc17 hS => ?_)
            clear hHeld hm
            obtain ⟨hHeld, BY, hm⟩ := hS
            refine wpAnyH_ready (rs := [11]) (by kernel_rfl) (by simp) (AllReadyH.cons (o := _) rfl (fun K hK => ?_) AllReadyH.nil)
            go_simp
            refine hK.out _ _ (hHeld.al _) (fun hNew => ?_)
            have hX : V.heap.size ≤ wc17.heap.size := hHeld.size
            have dYX := BY.lt
            clear hHeld hK K
            have hHeld := hNew
            clear hNew
            try simp only [Act.put, PA, PB]
            have gXhm := hm.size
            refine at_anyH (fun v => GB (fun _ => False) V v ∧ BK v (wc7.heap.size) [.int .i64 0, .int .i64 0] ∧ BK v (wc17.heap.size) [.slice none 0 0, .slice none 0 0] ∧ Mid wc6.heap.size wc7 v) ⟨hHeld, BY.al _, BK.new _ _ _, hm.al _⟩ (fun wc18 hS => ?_)
            clear hHeld BY hm
            obtain ⟨hHeld, BY, BX, hm⟩ := hS
            refine wpAnyH_ready (rs := [13]) (by kernel_rfl) (by simp) (AllReadyH.cons (o := _) rfl (fun K hK => ?_) AllReadyH.nil)
            have n0 := BX.c 0 rfl
            have f0 := BX.f 0 rfl
            have n1 := BX.c 1 rfl
            have f1 := BX.f 1 rfl
            go_simp
            clear n0 f0 n1 f1
            refine hK.out _ _ ((hHeld.set (.inr hX) _).set (.inr hX) _) (fun hNew => ?_)
            clear hHeld hK K
            have hHeld := hNew
            clear hNew
            try simp only [Act.put, PA, PB]
            refine at_anyH (fun v => GB (fun _ => False) V v ∧ BK v (wc7.heap.size) [.int .i64 0, .int .i64 0] ∧ BK v (wc17.heap.size) [.slice A2 m2 ca2, .slice Q2 n2 cq2] ∧ Mid wc6.heap.size wc7 v) ⟨hHeld, ((BY.far (by omega) _ _).far (by omega) _ _), ((BX.set 0 _).set 1 _), ((hm.set (by omega) _).set (by omega) _)⟩ (fun wc19 hS => ?_)
            clear hHeld BY BX hm
            obtain ⟨hHeld, BY, BX, hm⟩ := hS
            refine wpAnyH_ready (rs := [14]) (by kernel_rfl) (by simp) (AllReadyH.cons (o := _) rfl (fun K hK => ?_) AllReadyH.nil)
            have n0 := BY.c 0 rfl
            have f0 := BY.f 0 rfl
            have n1 := BY.c 1 rfl
            have f1 := BY.f 1 rfl
            go_simp
            clear n0 f0 n1 f1
            refine hK.out _ _ ((hHeld.set (.inr hY) _).set (.inr hY) _) (fun hNew => ?_)
            clear hHeld hK K
            have hHeld := hNew
            clear hNew
            try simp only [Act.put, PA, PB]
            refine at_anyH (fun v => GB (fun _ => False) V v ∧ BK v (wc7.heap.size) [.int .i64 qx, .int .i64 qy] ∧ BK v (wc17.heap.size) [.slice A2 m2 ca2, .slice Q2 n2 cq2] ∧ Mid wc6.heap.size wc7 v) ⟨hHeld, ((BY.set 0 _).set 1 _), ((BX.far (by omega) _ _).far (by omega) _ _), ((hm.set (by omega) _).set (by omega) _)⟩ (fun wc20 hS => ?_)
            clear hHeld BY BX hm
            obtain ⟨hHeld, BY, BX, hm⟩ := hS
            refine wpAnyH_take (i := 15) (oi := _) (v := ?vc21) rfl (by kernel_rfl) (by kernel_rfl) (by kernel_rfl) (fun _ _ _ h => h) (Or.inl ⟨by kernel_rfl, ?hyc21⟩) hHeld ?restc21
            case hyc21 => (intro w hSw; go_simp; first | done | (with_reducible rfl))
            try simp only [Act.put, PA, PB]
            refine wpAnyH_done (by kernel_rfl) ?_ _
            go_wp2_with fail
            go_meet
            exact ⟨_, _, A2, m2, ca2, Q2, n2, cq2, l2, rfl, rfl, BX, BY, hX, hY, HM2.out, HN2.out, HD2.out, (hfd.mid hm).mono hvw, hHeld.toBelow (Below.refl _ _) (fun k hk => hk.elim) (Nat.le_refl _)⟩
        ·
          go_simp
          refine hK.out _ _ (hHeld.al _) (fun hNew => ?_)
          have hX : V.heap.size ≤ wc6.heap.size := hHeld.size
          clear hHeld hK K
          have hHeld := hNew
          clear hNew
          try simp only [Act.put, PA, PB]
          refine at_anyH (fun v => GB (fun _ => False) V v ∧ BK v (wc6.heap.size) [.slice none 0 0, .slice none 0 0]) ⟨hHeld, BK.new _ _ _⟩ (fun wc22 hS => ?_)
          clear hHeld
          obtain ⟨hHeld, BX⟩ := hS
          refine wpAnyH_ready (rs := [6, 12]) (by kernel_rfl) (by simp) (AllReadyH.cons (o := _) rfl (fun K hK => ?_) (AllReadyH.cons (o := _) rfl (fun K hK => ?_) AllReadyH.nil))
          ·
            go_simp
            refine (VL.out _ (hHeld.toBelow hbb (fun k hk => hk.elim) (by omega))).mono ?_
            rintro e wc23 hput
            obtain ⟨A2, m2, ca2, Q2, n2, cq2, l2, rfl, hb3, hm2, hn2, hd2, hfd⟩ := hput.yes HE.out HT.out
            clear hput
            have HM2 := Lib.hid hm2
            have HN2 := Lib.hid hn2
            have HD2 := Lib.hid hd2
            clear hm2 hn2 hd2
            rw [HQX.out, HQY.out]
            have hm := Mid.refl wc22.heap.size wc23
            have hvw := hHeld.size
            go_wp2_with fail
            refine hK.out _ _ (hHeld.below hb3) (fun hNew => ?_)
            have cX := BX.lt
            replace BX := BX.keep hb3
            clear hb3
            clear hHeld hK K
            have hHeld := hNew
            clear hNew
            try simp only [Act.put, PA, PB]
            refine wpAnyH_take (i := 7) (oi := _) (v := ?vc24) rfl (by kernel_rfl) (by kernel_rfl) (by kernel_rfl) (fun _ _ _ h => h) (Or.inl ⟨by kernel_rfl, ?hyc24⟩) hHeld ?restc24
            case hyc24 => (intro w hSw; go_simp; first | done | (with_reducible rfl))
            try simp only [Act.put, PA, PB]
            refine wpAnyH_take (i := 8) (oi := _) (v := ?vc25) rfl (by kernel_rfl) (by kernel_rfl) (by kernel_rfl) (fun _ _ _ h => h) (Or.inl ⟨by kernel_rfl, ?hyc25⟩) hHeld ?restc25
            case hyc25 => (intro w hSw; go_simp; first | done | (with_reducible rfl))
            try simp only [Act.put, PA, PB]
            refine wpAnyH_take (i := 9) (oi := _) (v := ?vc26) rfl (by kernel_rfl) (by kernel_rfl) (by kernel_rfl) (fun _ _ _ h => h) (Or.inl ⟨by kernel_rfl, ?hyc26⟩) hHeld ?restc26
            case hyc26 => (intro w hSw; go_simp; first | done | (with_reducible rfl))
            try simp only [Act.put, PA, PB]
            refine wpAnyH_take (i := 10) (oi := _) (v := ?vc27) rfl (by kernel_rfl) (by kernel_rfl) (by kernel_rfl) (fun _ _ _ h => h) (Or.inl ⟨by kernel_rfl, ?hyc27⟩) hHeld ?restc27
            case hyc27 => (intro w hSw; go_simp; first | done | (with_reducible rfl))
            try simp only [Act.put, PA, PB]
            refine wpAnyH_ready (rs := [12]) (by kernel_rfl) (by simp) (AllReadyH.cons (o := _) rfl (fun K hK => ?_) AllReadyH.nil)
            go_simp
            refine hK.out _ _ (hHeld.al _) (fun hNew => ?_)
            have hY : V.heap.size ≤ wc23.heap.size := hHeld.size
            have dXY := BX.lt
            clear hHeld hK K
            have hHeld := hNew
            clear hNew
            try simp only [Act.put, PA, PB]
            have gYhm := hm.size
            refine at_anyH (fun v => GB (fun _ => False) V v ∧ BK v (wc6.heap.size) [.slice none 0 0, .slice none 0 0] ∧ BK v (wc23.heap.size) [.int .i64 0, .int .i64 0] ∧ Mid wc22.heap.size wc23 v) ⟨hHeld, BX.al _, BK.new _ _ _, hm.al _⟩ (fun wc28 hS => ?_)
            clear hHeld BX hm
            obtain ⟨hHeld, BX, BY, hm⟩ := hS
            refine wpAnyH_ready (rs := [13]) (by kernel_rfl) (by simp) (AllReadyH.cons (o := _) rfl (fun K hK => ?_) AllReadyH.nil)
            have n0 := BX.c 0 rfl
            have f0 := BX.f 0 rfl
            have n1 := BX.c 1 rfl
            have f1 := BX.f 1 rfl
            go_simp
            clear n0 f0 n1 f1
            refine hK.out _ _ ((hHeld.set (.inr hX) _).set (.inr hX) _) (fun hNew => ?_)
            clear hHeld hK K
            have hHeld := hNew
            clear hNew
            try simp only [Act.put, PA, PB]
            refine at_anyH (fun v => GB (fun _ => False) V v ∧ BK v (wc6.heap.size) [.slice A2 m2 ca2, .slice Q2 n2 cq2] ∧ BK v (wc23.heap.size) [.int .i64 0, .int .i64 0] ∧ Mid wc22.heap.size wc23 v) ⟨hHeld, ((BX.set 0 _).set 1 _), ((BY.far (by omega) _ _).far (by omega) _ _), ((hm.set (by omega) _).set (by omega) _)⟩ (fun wc29 hS => ?_)
            clear hHeld BX BY hm
            obtain ⟨hHeld, BX, BY, hm⟩ := hS
            refine wpAnyH_ready (rs := [14]) (by kernel_rfl) (by simp) (AllReadyH.cons (o := _) rfl (fun K hK => ?_) AllReadyH.nil)
            have n0 := BY.c 0 rfl
            have f0 := BY.f 0 rfl
            have n1 := BY.c 1 rfl
            have f1 := BY.f 1 rfl
            go_simp
            clear n0 f0 n1 f1
            refine hK.out _ _ ((hHeld.set (.inr hY) _).set (.inr hY) _) (fun hNew => ?_)
            clear hHeld hK K
            have hHeld := hNew
            clear hNew
            try simp only [Act.put, PA, PB]
            refine at_anyH (fun v => GB (fun _ => False) V v ∧ BK v (wc6.heap.size) [.slice A2 m2 ca2, .slice Q2 n2 cq2] ∧ BK v (wc23.heap.size) [.int .i64 qx, .int .i64 qy] ∧ Mid wc22.heap.size wc23 v) ⟨hHeld, ((BX.far (by omega) _ _).far (by omega) _ _), ((BY.set 0 _).set 1 _), ((hm.set (by omega) _).set (by omega) _)⟩ (fun wc30 hS => ?_)
            clear hHeld BX BY hm
            obtain ⟨hHeld, BX, BY, hm⟩ := hS
            refine wpAnyH_take (i := 15) (oi := _) (v := ?vc31) rfl (by kernel_rfl) (by kernel_rfl) (by kernel_rfl) (fun _ _ _ h => h) (Or.inl ⟨by kernel_rfl, ?hyc31⟩) hHeld ?restc31
            case hyc31 => (intro w hSw; go_simp; first | done | (with_reducible rfl))
            try simp only [Act.put, PA, PB]
            refine wpAnyH_done (by kernel_rfl) ?_ _
            go_wp2_with fail
            go_meet
            exact ⟨_, _, A2, m2, ca2, Q2, n2, cq2, l2, rfl, rfl, BX, BY, hX, hY, HM2.out, HN2.out, HD2.out, (hfd.mid hm).mono hvw, hHeld.toBelow (Below.refl _ _) (fun k hk => hk.elim) (Nat.le_refl _)⟩
          ·
            go_simp
            refine hK.out _ _ (hHeld.al _) (fun hNew => ?_)
            have hY : V.heap.size ≤ wc22.heap.size := hHeld.size
            have dXY := BX.lt
            clear hHeld hK K
            have hHeld := hNew
            clear hNew
            try simp only [Act.put, PA, PB]
            refine at_anyH (fun v => GB (fun _ => False) V v ∧ BK v (wc6.heap.size) [.slice none 0 0, .slice none 0 0] ∧ BK v (wc22.heap.size) [.int .i64 0, .int .i64 0]) ⟨hHeld, BX.al _, BK.new _ _ _⟩ (fun wc32 hS => ?_)
            clear hHeld BX
            obtain ⟨hHeld, BX, BY⟩ := hS
            refine wpAnyH_ready (rs := [6]) (by kernel_rfl) (by simp) (AllReadyH.cons (o := _) rfl (fun K hK => ?_) AllReadyH.nil)
            go_simp
            refine (VL.out _ (hHeld.toBelow hbb (fun k hk => hk.elim) (by omega))).mono ?_
            rintro e wc33 hput
            obtain ⟨A2, m2, ca2, Q2, n2, cq2, l2, rfl, hb3, hm2, hn2, hd2, hfd⟩ := hput.yes HE.out HT.out
            clear hput
            have HM2 := Lib.hid hm2
            have HN2 := Lib.hid hn2
            have HD2 := Lib.hid hd2
            clear hm2 hn2 hd2
            rw [HQX.out, HQY.out]
            have hm := Mid.refl wc32.heap.size wc33
            have hvw := hHeld.size
            go_wp2_with fail
            refine hK.out _ _ (hHeld.below hb3) (fun hNew => ?_)
            have cX := BX.lt
            replace BX := BX.keep hb3
            have cY := BY.lt
            replace BY := BY.keep hb3
            clear hb3
            clear hHeld hK K
            have hHeld := hNew
            clear hNew
            try simp only [Act.put, PA, PB]
            refine wpAnyH_take (i := 7) (oi := _) (v := ?vc34) rfl (by kernel_rfl) (by kernel_rfl) (by kernel_rfl) (fun _ _ _ h => h) (Or.inl ⟨by kernel_rfl, ?hyc34⟩) hHeld ?restc34
            case hyc34 => (intro w hSw; go_simp; first | done | (with_reducible rfl))
            try simp only [Act.put, PA, PB]
            refine wpAnyH_take (i := 8) (oi := _) (v := ?vc35) rfl (by kernel_rfl) (by kernel_rfl) (by kernel_rfl) (fun _ _ _ h => h) (Or.inl ⟨by kernel_rfl, ?hyc35⟩) hHeld ?restc35
            case hyc35 => (intro w hSw; go_simp; first | done | (with_reducible rfl))
            try simp only [Act.put, PA, PB]
            refine wpAnyH_take (i := 9) (oi := _) (v := ?vc36) rfl (by kernel_rfl) (by kernel_rfl) (by kernel_rfl) (fun _ _ _ h => h) (Or.inl ⟨by kernel_rfl, ?hyc36⟩) hHeld ?restc36
            case hyc36 => (intro w hSw; go_simp; first | done | (with_reducible rfl))
            try simp only [Act.put, PA, PB]
            refine wpAnyH_take (i := 10) (oi := _) (v := ?vc37) rfl (by kernel_rfl) (by kernel_rfl) (by kernel_rfl) (fun _ _ _ h => h) (Or.inl ⟨by kernel_rfl, ?hyc37⟩) hHeld ?restc37
            case hyc37 => (intro w hSw; go_simp; first | done | (with_reducible rfl))
            try simp only [Act.put, PA, PB]
            refine wpAnyH_ready (rs := [13]) (by kernel_rfl) (by simp) (AllReadyH.cons (o := _) rfl (fun K hK => ?_) AllReadyH.nil)
            have n0 := BX.c 0 rfl
            have f0 := BX.f 0 rfl
            have n1 := BX.c 1 rfl
            have f1 := BX.f 1 rfl
            go_simp
            clear n0 f0 n1 f1
            refine hK.out _ _ ((hHeld.set (.inr hX) _).set (.inr hX) _) (fun hNew => ?_)
            clear hHeld hK K
            have hHeld := hNew
            clear hNew
            try simp only [Act.put, PA, PB]
            refine at_anyH (fun v => GB (fun _ => False) V v ∧ BK v (wc6.heap.size) [.slice A2 m2 ca2, .slice Q2 n2 cq2] ∧ BK v (wc22.heap.size) [.int .i64 0, .int .i64 0] ∧ Mid wc32.heap.size wc33 v) ⟨hHeld, ((BX.set 0 _).set 1 _), ((BY.far (by omega) _ _).far (by omega) _ _), ((hm.set (by omega) _).set (by omega) _)⟩ (fun wc38 hS => ?_)
            clear hHeld BX BY hm
            obtain ⟨hHeld, BX, BY, hm⟩ := hS
            refine wpAnyH_ready (rs := [14]) (by kernel_rfl) (by simp) (AllReadyH.cons (o := _) rfl (fun K hK => ?_) AllReadyH.nil)
            have n0 := BY.c 0 rfl
            have f0 := BY.f 0 rfl
            have n1 := BY.c 1 rfl
            have f1 := BY.f 1 rfl
            go_simp
            clear n0 f0 n1 f1
            refine hK.out _ _ ((hHeld.set (.inr hY) _).set (.inr hY) _) (fun hNew => ?_)
            clear hHeld hK K
            have hHeld := hNew
            clear hNew
            try simp only [Act.put, PA, PB]
            refine at_anyH (fun v => GB (fun _ => False) V v ∧ BK v (wc6.heap.size) [.slice A2 m2 ca2, .slice Q2 n2 cq2] ∧ BK v (wc22.heap.size) [.int .i64 qx, .int .i64 qy] ∧ Mid wc32.heap.size wc33 v) ⟨hHeld, ((BX.far (by omega) _ _).far (by omega) _ _), ((BY.set 0 _).set 1 _), ((hm.set (by omega) _).set (by omega) _)⟩ (fun wc39 hS => ?_)
            clear hHeld BX BY hm
            obtain ⟨hHeld, BX, BY, hm⟩ := hS
            refine wpAnyH_take (i := 15) (oi := _) (v := ?vc40) rfl (by kernel_rfl) (by kernel_rfl) (by kernel_rfl) (fun _ _ _ h => h) (Or.inl ⟨by kernel_rfl, ?hyc40⟩) hHeld ?restc40
            case hyc40 => (intro w hSw; go_simp; first | done | (with_reducible rfl))
            try simp only [Act.put, PA, PB]
            refine wpAnyH_done (by kernel_rfl) ?_ _
            go_wp2_with fail
            go_meet
            exact ⟨_, _, A2, m2, ca2, Q2, n2, cq2, l2, rfl, rfl, BX, BY, hX, hY, HM2.out, HN2.out, HD2.out, (hfd.mid hm).mono hvw, hHeld.toBelow (Below.refl _ _) (fun k hk => hk.elim) (Nat.le_refl _)⟩
        ·
          go_simp
          refine hK.out _ _ (hHeld.al _) (fun hNew => ?_)
          have hY : V.heap.size ≤ wc6.heap.size := hHeld.size
          clear hHeld hK K
          have hHeld := hNew
          clear hNew
          try simp only [Act.put, PA, PB]
          refine at_anyH (fun v => GB (fun _ => False) V v ∧ BK v (wc6.heap.size) [.int .i64 0, .int .i64 0]) ⟨hHeld, BK.new _ _ _⟩ (fun wc41 hS => ?_)
          clear hHeld
          obtain ⟨hHeld, BY⟩ := hS
          refine wpAnyH_ready (rs := [6, 11]) (by kernel_rfl) (by simp) (AllReadyH.cons (o := _) rfl (fun K hK => ?_) (AllReadyH.cons (o := _) rfl (fun K hK => ?_) AllReadyH.nil))
          ·
            go_simp
            refine (VL.out _ (hHeld.toBelow hbb (fun k hk => hk.elim) (by omega))).mono ?_
            rintro e wc42 hput
            obtain ⟨A2, m2, ca2, Q2, n2, cq2, l2, rfl, hb3, hm2, hn2, hd2, hfd⟩ := hput.yes HE.out HT.out
            clear hput
            have HM2 := Lib.hid hm2
            have HN2 := Lib.hid hn2
            have HD2 := Lib.hid hd2
            clear hm2 hn2 hd2
            rw [HQX.out, HQY.out]
            have hm := Mid.refl wc41.heap.size wc42
            have hvw := hHeld.size
            go_wp2_with fail
            refine hK.out _ _ (hHeld.below hb3) (fun hNew => ?_)
            have cY := BY.lt
            replace BY := BY.keep hb3
            clear hb3
            clear hHeld hK K
            have hHeld := hNew
            clear hNew
            try simp only [Act.put, PA, PB]
            refine wpAnyH_take (i := 7) (oi := _) (v := ?vc43) rfl (by kernel_rfl) (by kernel_rfl) (by kernel_rfl) (fun _ _ _ h => h) (Or.inl ⟨by kernel_rfl, ?hyc43⟩) hHeld ?restc43
            case hyc43 => (intro w hSw; go_simp; first | done | (with_reducible rfl))
            try simp only [Act.put, PA, PB]
            refine wpAnyH_take (i := 8) (oi := _) (v := ?vc44) rfl (by kernel_rfl) (by kernel_rfl) (by kernel_rfl) (fun _ _ _ h => h) (Or.inl ⟨by kernel_rfl, ?hyc44⟩) hHeld ?restc44
            case hyc44 => (intro w hSw; go_simp; first | done | (with_reducible rfl))
            try simp only [Act.put, PA, PB]
            refine wpAnyH_take (i := 9) (oi := _) (v := ?vc45) rfl (by kernel_rfl) (by kernel_rfl) (by kernel_rfl) (fun _ _ _ h => h) (Or.inl ⟨by kernel_rfl, ?hyc45⟩) hHeld ?restc45
            case hyc45 => (intro w hSw; go_simp; first | done | (with_reducible rfl))
            try simp only [Act.put, PA, PB]
            refine wpAnyH_take (i := 10) (oi := _) (v := ?vc46) rfl (by kernel_rfl) (by kernel_rfl) (by kernel_rfl) (fun _ _ _ h => h) (Or.inl ⟨by kernel_rfl, ?hyc46⟩) hHeld ?restc46
            case hyc46 => (intro w hSw; go_simp; first | done | (with_reducible rfl))
            try simp only [Act.put, PA, PB]
            refine wpAnyH_ready (rs := [11]) (by kernel_rfl) (by simp) (AllReadyH.cons (o := _) rfl (fun K hK => ?_) AllReadyH.nil)
            go_simp
            refine hK.out _ _ (hHeld.al _) (fun hNew => ?_)
            have hX : V.heap.size ≤ wc42.heap.size := hHeld.size
            have dYX := BY.lt
            clear hHeld hK K
            have hHeld := hNew
            clear hNew
            try simp only [Act.put, PA, PB]
            have gXhm := hm.size
            refine at_anyH (fun v => GB (fun _ => False) V v ∧ BK v (wc6.heap.size) [.int .i64 0, .int .i64 0] ∧ BK v (wc42.heap.size) [.slice none 0 0, .slice none 0 0] ∧ Mid wc41.heap.size wc42 v) ⟨hHeld, BY.al _, BK.new _ _ _, hm.al _⟩ (fun wc47 hS => ?_)
            clear hHeld BY hm
            obtain ⟨hHeld, BY, BX, hm⟩ := hS
            refine wpAnyH_ready (rs := [13]) (by kernel_rfl) (by simp) (AllReadyH.cons (o := _) rfl (fun K hK => ?_) AllReadyH.nil)
            have n0 := BX.c 0 rfl
            have f0 := BX.f 0 rfl
            have n1 := BX.c 1 rfl
            have f1 := BX.f 1 rfl
            go_simp
            clear n0 f0 n1 f1
            refine hK.out _ _ ((hHeld.set (.inr hX) _).set (.inr hX) _) (fun hNew => ?_)
            clear hHeld hK K
            have hHeld := hNew
            clear hNew
            try simp only [Act.put, PA, PB]
            refine at_anyH (fun v => GB (fun _ => False) V v ∧ BK v (wc6.heap.size) [.int .i64 0, .int .i64 0] ∧ BK v (wc42.heap.size) [.slice A2 m2 ca2, .slice Q2 n2 cq2] ∧ Mid wc41.heap.size wc42 v) ⟨hHeld, ((BY.far (by omega) _ _).far (by omega) _ _), ((BX.set 0 _).set 1 _), ((hm.set (by omega) _).set (by omega) _)⟩ (fun wc48 hS => ?_)
            clear hHeld BY BX hm
            obtain ⟨hHeld, BY, BX, hm⟩ := hS
            refine wpAnyH_ready (rs := [14]) (by kernel_rfl) (by simp) (AllReadyH.cons (o := _) rfl (fun K hK => ?_) AllReadyH.nil)
            have n0 := BY.c 0 rfl
            have f0 := BY.f 0 rfl
            have n1 := BY.c 1 rfl
            have f1 := BY.f 1 rfl
            go_simp
            clear n0 f0 n1 f1
            refine hK.out _ _ ((hHeld.set (.inr hY) _).set (.inr hY) _) (fun hNew => ?_)
            clear hHeld hK K
            have hHeld := hNew
            clear hNew
            try simp only [Act.put, PA, PB]
            refine at_anyH (fun v => GB (fun _ => False) V v ∧ BK v (wc6.heap.size) [.int .i64 qx, .int .i64 qy] ∧ BK v (wc42.heap.size) [.slice A2 m2 ca2, .slice Q2 n2 cq2] ∧ Mid wc41.heap.size wc42 v) ⟨hHeld, ((BY.set 0 _).set 1 _), ((BX.far (by omega) _ _).far (by omega) _ _), ((hm.set (by omega) _).set (by omega) _)⟩ (fun wc49 hS => ?_)
            clear hHeld BY BX hm
            obtain ⟨hHeld, BY, BX, hm⟩ := hS
            refine wpAnyH_take (i := 15) (oi := _) (v := ?vc50) rfl (by kernel_rfl) (by kernel_rfl) (by kernel_rfl) (fun _ _ _ h => h) (Or.inl ⟨by kernel_rfl, ?hyc50⟩) hHeld ?restc50
            case hyc50 => (intro w hSw; go_simp; first | done | (with_reducible rfl))
            try simp only [Act.put, PA, PB]
            refine wpAnyH_done (by kernel_rfl) ?_ _
            go_wp2_with fail
            go_meet
            exact ⟨_, _, A2, m2, ca2, Q2, n2, cq2, l2, rfl, rfl, BX, BY, hX, hY, HM2.out, HN2.out, HD2.out, (hfd.mid hm).mono hvw, hHeld.toBelow (Below.refl _ _) (fun k hk => hk.elim) (Nat.le_refl _)⟩
          ·
            go_simp
            refine hK.out _ _ (hHeld.al _) (fun hNew => ?_)
            have hX : V.heap.size ≤ wc41.heap.size := hHeld.size
            have dYX := BY.lt
            clear hHeld hK K
            have hHeld := hNew
            clear hNew
            try simp only [Act.put, PA, PB]
            refine at_anyH (fun v => GB (fun _ => False) V v ∧ BK v (wc6.heap.size) [.int .i64 0, .int .i64 0] ∧ BK v (wc41.heap.size) [.slice none 0 0, .slice none 0 0]) ⟨hHeld, BY.al _, BK.new _ _ _⟩ (fun wc51 hS => ?_)
            clear hHeld BY
            obtain ⟨hHeld, BY, BX⟩ := hS
            refine wpAnyH_ready (rs := [6]) (by kernel_rfl) (by simp) (AllReadyH.cons (o := _) rfl (fun K hK => ?_) AllReadyH.nil)
            go_simp
            refine (VL.out _ (hHeld.toBelow hbb (fun k hk => hk.elim) (by omega))).mono ?_
            rintro e wc52 hput
            obtain ⟨A2, m2, ca2, Q2, n2, cq2, l2, rfl, hb3, hm2, hn2, hd2, hfd⟩ := hput.yes HE.out HT.out
            clear hput
            have HM2 := Lib.hid hm2
            have HN2 := Lib.hid hn2
            have HD2 := Lib.hid hd2
            clear hm2 hn2 hd2
            rw [HQX.out, HQY.out]
            have hm := Mid.refl wc51.heap.size wc52
            have hvw := hHeld.size
            go_wp2_with fail
            refine hK.out _ _ (hHeld.below hb3) (fun hNew => ?_)
            have cY := BY.lt
            replace BY := BY.keep hb3
            have cX := BX.lt
            replace BX := BX.keep hb3
            clear hb3
            clear hHeld hK K
            have hHeld := hNew
            clear hNew
            try simp only [Act.put, PA, PB]
            refine wpAnyH_take (i := 7) (oi := _) (v := ?vc53) rfl (by kernel_rfl) (by kernel_rfl) (by kernel_rfl) (fun _ _ _ h => h) (Or.inl ⟨by kernel_rfl, ?hyc53⟩) hHeld ?restc53
            case hyc53 => (intro w hSw; go_simp; first | done | (with_reducible rfl))
            try simp only [Act.put, PA, PB]
            refine wpAnyH_take (i := 8) (oi := _) (v := ?vc54) rfl (by kernel_rfl) (by kernel_rfl) (by kernel_rfl) (fun _ _ _ h => h) (Or.inl ⟨by kernel_rfl, ?hyc54⟩) hHeld ?restc54
            case hyc54 => (intro w hSw; go_simp; first | done | (with_reducible rfl))
            try simp only [Act.put, PA, PB]
            refine wpAnyH_take (i := 9) (oi := _) (v := ?vc55) rfl (by kernel_rfl) (by kernel_rfl) (by kernel_rfl) (fun _ _ _ h => h) (Or.inl ⟨by kernel_rfl, ?hyc55⟩) hHeld ?restc55
            case hyc55 => (intro w hSw; go_simp; first | done | (with_reducible rfl))
            try simp only [Act.put, PA, PB]
            refine wpAnyH_take (i := 10) (oi := _) (v := ?vc56) rfl (by kernel_rfl) (by kernel_rfl) (by kernel_rfl) (fun _ _ _ h => h) (Or.inl ⟨by kernel_rfl, ?hyc56⟩) hHeld ?restc56
            case hyc56 => (intro w hSw; go_simp; first | done | (with_reducible rfl))
            try simp only [Act.put, PA, PB]
            refine wpAnyH_ready (rs := [13]) (by kernel_rfl) (by simp) (AllReadyH.cons (o := _) rfl (fun K hK => ?_) AllReadyH.nil)
            have n0 := BX.c 0 rfl
            have f0 := BX.f 0 rfl
            have n1 := BX.c 1 rfl
            have f1 := BX.f 1 rfl
            go_simp
            clear n0 f0 n1 f1
            refine hK.out _ _ ((hHeld.set (.inr hX) _).set (.inr hX) _) (fun hNew => ?_)
            clear hHeld hK K
            have hHeld := hNew
            clear hNew
            try simp only [Act.put, PA, PB]
            refine at_anyH (fun v => GB (fun _ => False) V v ∧ BK v (wc6.heap.size) [.int .i64 0, .int .i64 0] ∧ BK v (wc41.heap.size) [.slice A2 m2 ca2, .slice Q2 n2 cq2] ∧ Mid wc51.heap.size wc52 v) ⟨hHeld, ((BY.far (by omega) _ _).far (by omega) _ _), ((BX.set 0 _).set 1 _), ((hm.set (by omega) _).set (by omega) _)⟩ (fun wc57 hS => ?_)
            clear hHeld BY BX hm
            obtain ⟨hHeld, BY, BX, hm⟩ := hS
            refine wpAnyH_ready (rs := [14]) (by kernel_rfl) (by simp) (AllReadyH.cons (o := _) rfl (fun K hK => ?_) AllReadyH.nil)
            have n0 := BY.c 0 rfl
            have f0 := BY.f 0 rfl
            have n1 := BY.c 1 rfl
            have f1 := BY.f 1 rfl
            go_simp
            clear n0 f0 n1 f1
            refine hK.out _ _ ((hHeld.set (.inr hY) _).set (.inr hY) _) (fun hNew => ?_)
            clear hHeld hK K
            have hHeld := hNew
            clear hNew
            try simp only [Act.put, PA, PB]
            refine at_anyH (fun v => GB (fun _ => False) V v ∧ BK v (wc6.heap.size) [.int .i64 qx, .int .i64 qy] ∧ BK v (wc41.heap.size) [.slice A2 m2 ca2, .slice Q2 n2 cq2] ∧ Mid wc51.heap.size wc52 v) ⟨hHeld, ((BY.set 0 _).set 1 _), ((BX.far (by omega) _ _).far (by omega) _ _), ((hm.set (by omega) _).set (by omega) _)⟩ (fun wc58 hS => ?_)
            clear hHeld BY BX hm
            obtain ⟨hHeld, BY, BX, hm⟩ := hS
            refine wpAnyH_take (i := 15) (oi := _) (v := ?vc59) rfl (by kernel_rfl) (by kernel_rfl) (by kernel_rfl) (fun _ _ _ h => h) (Or.inl ⟨by kernel_rfl, ?hyc59⟩) hHeld ?restc59
            case hyc59 => (intro w hSw; go_simp; first | done | (with_reducible rfl))
            try simp only [Act.put, PA, PB]
            refine wpAnyH_done (by kernel_rfl) ?_ _
            go_wp2_with fail
            go_meet
            exact ⟨_, _, A2, m2, ca2, Q2, n2, cq2, l2, rfl, rfl, BX, BY, hX, hY, HM2.out, HN2.out, HD2.out, (hfd.mid hm).mono hvw, hHeld.toBelow (Below.refl _ _) (fun k hk => hk.elim) (Nat.le_refl _)⟩
      ·
        go_simp
        refine hK.out _ _ (hHeld.al _) (fun hNew => ?_)
        have hX : V.heap.size ≤ wc0.heap.size := hHeld.size
        clear hHeld hK K
        have hHeld := hNew
        clear hNew
        try simp only [Act.put, PA, PB]
        refine at_anyH (fun v => GB (fun _ => False) V v ∧ BK v (wc0.heap.size) [.slice none 0 0, .slice none 0 0]) ⟨hHeld, BK.new _ _ _⟩ (fun wc60 hS => ?_)
        clear hHeld
        obtain ⟨hHeld, BX⟩ := hS
        refine wpAnyH_ready (rs := [3, 12]) (by kernel_rfl) (by simp) (AllReadyH.cons (o := _) rfl (fun K hK => ?_) (AllReadyH.cons (o := _) rfl (fun K hK => ?_) AllReadyH.nil))
        ·
          go_simp
          refine (WH.out _).mono ?_
          rintro e wc61 ⟨rfl, hb3⟩
          go_wp2_with fail
          refine hK.out _ _ (hHeld.below hb3) (fun hNew => ?_)
          replace BX := BX.keep hb3
          clear hb3
          clear hHeld hK K
          have hHeld := hNew
          clear hNew
          try simp only [Act.put, PA, PB]
          refine wpAnyH_ready (rs := [6, 12]) (by kernel_rfl) (by simp) (AllReadyH.cons (o := _) rfl (fun K hK => ?_) (AllReadyH.cons (o := _) rfl (fun K hK => ?_) AllReadyH.nil))
          ·
            go_simp
            refine (VL.out _ (hHeld.toBelow hbb (fun k hk => hk.elim) (by omega))).mono ?_
            rintro e wc62 hput
            obtain ⟨A2, m2, ca2, Q2, n2, cq2, l2, rfl, hb3, hm2, hn2, hd2, hfd⟩ := hput.yes HE.out HT.out
            clear hput
            have HM2 := Lib.hid hm2
            have HN2 := Lib.hid hn2
            have HD2 := Lib.hid hd2
            clear hm2 hn2 hd2
            rw [HQX.out, HQY.out]
            have hm := Mid.refl wc61.heap.size wc62
            have hvw := hHeld.size
            go_wp2_with fail
            refine hK.out _ _ (hHeld.below hb3) (fun hNew => ?_)
            have cX := BX.lt
            replace BX := BX.keep hb3
            clear hb3
            clear hHeld hK K
            have hHeld := hNew
            clear hNew
            try simp only [Act.put, PA, PB]
            refine wpAnyH_take (i := 7) (oi := _) (v := ?vc63) rfl (by kernel_rfl) (by kernel_rfl) (by kernel_rfl) (fun _ _ _ h => h) (Or.inl ⟨by kernel_rfl, ?hyc63⟩) hHeld ?restc63
            case hyc63 => (intro w hSw; go_simp; first | done | (with_reducible rfl))
            try simp only [Act.put, PA, PB]
            refine wpAnyH_take (i := 8) (oi := _) (v := ?vc64) rfl (by kernel_rfl) (by kernel_rfl) (by kernel_rfl) (fun _ _ _ h => h) (Or.inl ⟨by kernel_rfl, ?hyc64⟩) hHeld ?restc64
            case hyc64 => (intro w hSw; go_simp; first | done | (with_reducible rfl))
            try simp only [Act.put, PA, PB]
            refine wpAnyH_take (i := 9) (oi := _) (v := ?vc65) rfl (by kernel_rfl) (by kernel_rfl) (by kernel_rfl) (fun _ _ _ h => h) (Or.inl ⟨by kernel_rfl, ?hyc65⟩) hHeld ?restc65
            case hyc65 => (intro w hSw; go_simp; first | done | (with_reducible rfl))
            try simp only [Act.put, PA, PB]
            refine wpAnyH_take (i := 10) (oi := _) (v := ?vc66) rfl (by kernel_rfl) (by kernel_rfl) (by kernel_rfl) (fun _ _ _ h => h) (Or.inl ⟨by kernel_rfl, ?hyc66⟩) hHeld ?restc66
            case hyc66 => (intro w hSw; go_simp; first | done | (with_reducible rfl))
            try simp only [Act.put, PA, PB]
            refine wpAnyH_ready (rs := [12]) (by kernel_rfl) (by simp) (AllReadyH.cons (o := _) rfl (fun K hK => ?_) AllReadyH.nil)
            go_simp
            refine hK.out _ _ (hHeld.al _) (fun hNew => ?_)
            have hY : V.heap.size ≤ wc62.heap.size := hHeld.size
            have dXY := BX.lt
            clear hHeld hK K
            have hHeld := hNew
            clear hNew
            try simp only [Act.put, PA, PB]
            have gYhm := hm.size
            refine at_anyH (fun v => GB (fun _ => False) V v ∧ BK v (wc0.heap.size) [.slice none 0 0, .slice none 0 0] ∧ BK v (wc62.heap.size) [.int .i64 0, .int .i64 0] ∧ Mid wc61.heap.size wc62 v) ⟨hHeld, BX.al _, BK.new _ _ _, hm.al _⟩ (fun wc67 hS => ?_)
            clear hHeld BX hm
            obtain ⟨hHeld, BX, BY, hm⟩ := hS
            refine wpAnyH_ready (rs := [13]) (by kernel_rfl) (by simp) (AllReadyH.cons (o := _) rfl (fun K hK => ?_) AllReadyH.nil)
            have n0 := BX.c 0 rfl
            have f0 := BX.f 0 rfl
            have n1 := BX.c 1 rfl
            have f1 := BX.f 1 rfl
            go_simp
            clear n0 f0 n1 f1
            refine hK.out _ _ ((hHeld.set (.inr hX) _).set (.inr hX) _) (fun hNew => ?_)
            clear hHeld hK K
            have hHeld := hNew
            clear hNew
            try simp only [Act.put, PA, PB]
            refine at_anyH (fun v => GB (fun _ => False) V v ∧ BK v (wc0.heap.size) [.slice A2 m2 ca2, .slice Q2 n2 cq2] ∧ BK v (wc62.heap.size) [.int .i64 0, .int .i64 0] ∧ Mid wc61.heap.size wc62 v) ⟨hHeld, ((BX.set 0 _).set 1 _), ((BY.far (by omega) _ _).far (by omega) _ _), ((hm.set (by omega) _).set (by omega) _)⟩ (fun wc68 hS => ?_)
            clear hHeld BX BY hm
            obtain ⟨hHeld, BX, BY, hm⟩ := hS
            refine wpAnyH_ready (rs := [14]) (by kernel_rfl) (by simp) (AllReadyH.cons (o := _) rfl (fun K hK => ?_) AllReadyH.nil)
            have n0 := BY.c 0 rfl
            have f0 := BY.f 0 rfl
            have n1 := BY.c 1 rfl
            have f1 := BY.f 1 rfl
            go_simp
            clear n0 f0 n1 f1
            refine hK.out _ _ ((hHeld.set (.inr hY) _).set (.inr hY) _) (fun hNew => ?_)
            clear hHeld hK K
            have hHeld := hNew
            clear hNew
            try simp only [Act.put, PA, PB]
            refine at_anyH (fun v => GB (fun _ => False) V v ∧ BK v (wc0.heap.size) [.slice A2 m2 ca2, .slice Q2 n2 cq2] ∧ BK v (wc62.heap.size) [.int .i64 qx, .int .i64 qy] ∧ Mid wc61.heap.size wc62 v) ⟨hHeld, ((BX.far (by omega) _ _).far (by omega) _ _), ((BY.set 0 _).set 1 _), ((hm.set (by omega) _).set (by omega) _)⟩ (fun wc69 hS => ?_)
            clear hHeld BX BY hm
            obtain ⟨hHeld, BX, BY, hm⟩ := hS
            refine wpAnyH_take (i := 15) (oi := _) (v := ?vc70) rfl (by kernel_rfl) (by kernel_rfl) (by kernel_rfl) (fun _ _ _ h => h) (Or.inl ⟨by kernel_rfl, ?hyc70⟩) hHeld ?restc70
            case hyc70 => (intro w hSw; go_simp; first | done | (with_reducible rfl))
            try simp only [Act.put, PA, PB]
            refine wpAnyH_done (by kernel_rfl) ?_ _
            go_wp2_with fail
            go_meet
            exact ⟨_, _, A2, m2, ca2, Q2, n2, cq2, l2, rfl, rfl, BX, BY, hX, hY, HM2.out, HN2.out, HD2.out, (hfd.mid hm).mono hvw, hHeld.toBelow (Below.refl _ _) (fun k hk => hk.elim) (Nat.le_refl _)⟩
          ·
            go_simp
            refine hK.out _ _ (hHeld.al _) (fun hNew => ?_)
            have hY : V.heap.size ≤ wc61.heap.size := hHeld.size
            have dXY := BX.lt
            clear hHeld hK K
            have hHeld := hNew
            clear hNew
            try simp only [Act.put, PA, PB]
            refine at_anyH (fun v => GB (fun _ => False) V v ∧ BK v (wc0.heap.size) [.slice none 0 0, .slice none 0 0] ∧ BK v (wc61.heap.size) [.int .i64 0, .int .i64 0]) ⟨hHeld, BX.al _, BK.new _ _ _⟩ (fun wc71 hS => ?_)
            clear hHeld BX
            obtain ⟨hHeld, BX, BY⟩ := hS
            refine wpAnyH_ready (rs := [6]) (by kernel_rfl) (by simp) (AllReadyH.cons (o := _) rfl (fun K hK => ?_) AllReadyH.nil)
            go_simp
            refine (VL.out _ (hHeld.toBelow hbb (fun k hk => hk.elim) (by omega))).mono ?_
            rintro e wc72 hput
            obtain ⟨A2, m2, ca2, Q2, n2, cq2, l2, rfl, hb3, hm2, hn2, hd2, hfd⟩ := hput.yes HE.out HT.out
            clear hput
            have HM2 := Lib.hid hm2
            have HN2 := Lib.hid hn2
            have HD2 := Lib.hid hd2
            clear hm2 hn2 hd2
            rw [HQX.out, HQY.out]
            have hm := Mid.refl wc71.heap.size wc72
            have hvw := hHeld.size
            go_wp2_with fail
            refine hK.out _ _ (hHeld.below hb3) (fun hNew => ?_)
            have cX := BX.lt
            replace BX := BX.keep hb3
            have cY := BY.lt
            replace BY := BY.keep hb3
            clear hb3
            clear hHeld hK K
            have hHeld := hNew
            clear hNew
            try simp only [Act.put, PA, PB]
            refine wpAnyH_take (i := 7) (oi := _) (v := ?vc73) rfl (by kernel_rfl) (by kernel_rfl) (by kernel_rfl) (fun _ _ _ h => h) (Or.inl ⟨by kernel_rfl, ?hyc73⟩) hHeld ?restc73
            case hyc73 => (intro w hSw; go_simp; first | done | (with_reducible rfl))
            try simp only [Act.put, PA, PB]
            refine wpAnyH_take (i := 8) (oi := _) (v := ?vc74) rfl (by kernel_rfl) (by kernel_rfl) (by kernel_rfl) (fun _ _ _ h => h) (Or.inl ⟨by kernel_rfl, ?hyc74⟩) hHeld ?restc74
            case hyc74 => (intro w hSw; go_simp; first | done | (with_reducible rfl))
            try simp only [Act.put, PA, PB]
            refine wpAnyH_take (i := 9) (oi := _) (v := ?vc75) rfl (by kernel_rfl) (by kernel_rfl) (by kernel_rfl) (fun _ _ _ h => h) (Or.inl ⟨by kernel_rfl, ?hyc75⟩) hHeld ?restc75
            case hyc75 => (intro w hSw; go_simp; first | done | (with_reducible rfl))
            try simp only [Act.put, PA, PB]
            refine wpAnyH_take (i := 10) (oi := _) (v := ?vc76) rfl (by kernel_rfl) (by kernel_rfl) (by kernel_rfl) (fun _ _ _ h => h) (Or.inl ⟨by kernel_rfl, ?hyc76⟩) hHeld ?restc76
            case hyc76 => (intro w hSw; go_simp; first | done | (with_reducible rfl))
            try simp only [Act.put, PA, PB]
            refine wpAnyH_ready (rs := [13]) (by kernel_rfl) (by simp) (AllReadyH.cons (o := _) rfl (fun K hK => ?_) AllReadyH.nil)
            have n0 := BX.c 0 rfl
            have f0 := BX.f 0 rfl
            have n1 := BX.c 1 rfl
            have f1 := BX.f 1 rfl
            go_simp
            clear n0 f0 n1 f1
            refine hK.out _ _ ((hHeld.set (.inr hX) _).set (.inr hX) _) (fun hNew => ?_)
            clear hHeld hK K
            have hHeld := hNew
            clear hNew
            try simp only [Act.put, PA, PB]
            refine at_anyH (fun v => GB (fun _ => False) V v ∧ BK v (wc0.heap.size) [.slice A2 m2 ca2, .slice Q2 n2 cq2] ∧ BK v (wc61.heap.size) [.int .i64 0, .int .i64 0] ∧ Mid wc71.heap.size wc72 v) ⟨hHeld, ((BX.set 0 _).set 1 _), ((BY.far (by omega) _ _).far (by omega) _ _), ((hm.set (by omega) _).set (by omega) _)⟩ (fun wc77 hS => ?_)
            clear hHeld BX BY hm
            obtain ⟨hHeld, BX, BY, hm⟩ := hS
            refine wpAnyH_ready (rs := [14]) (by kernel_rfl) (by simp) (AllReadyH.cons (o := _) rfl (fun K hK => ?_) AllReadyH.nil)
            have n0 := BY.c 0 rfl
            have f0 := BY.f 0 rfl
            have n1 := BY.c 1 rfl
            have f1 := BY.f 1 rfl
            go_simp
            clear n0 f0 n1 f1
            refine hK.out _ _ ((hHeld.set (.inr hY) _).set (.inr hY) _) (fun hNew => ?_)
            clear hHeld hK K
            have hHeld := hNew
            clear hNew
            try simp only [Act.put, PA, PB]
            refine at_anyH (fun v => GB (fun _ => False) V v ∧ BK v (wc0.heap.size) [.slice A2 m2 ca2, .slice Q2 n2 cq2] ∧ BK v (wc61.heap.size) [.int .i64 qx, .int .i64 qy] ∧ Mid wc71.heap.size wc72 v) ⟨hHeld, ((BX.far (by omega) _ _).far (by omega) _ _), ((BY.set 0 _).set 1 _), ((hm.set (by omega) _).set (by omega) _)⟩ (fun wc78 hS => ?_)
            clear hHeld BX BY hm
            obtain ⟨hHeld, BX, BY, hm⟩ := hS
            refine wpAnyH_take (i := 15) (oi := _) (v := ?vc79) rfl (by kernel_rfl) (by kernel_rfl) (by kernel_rfl) (fun _ _ _ h => h) (Or.inl ⟨by kernel_rfl, ?hyc79⟩) hHeld ?restc79
            case hyc79 => (intro w hSw; go_simp; first | done | (with_reducible rfl))
            try simp only [Act.put, PA, PB]
            refine wpAnyH_done (by kernel_rfl) ?_ _
            go_wp2_with fail
            go_meet
            exact ⟨_, _, A2, m2, ca2, Q2, n2, cq2, l2, rfl, rfl, BX, BY, hX, hY, HM2.out, HN2.out, HD2.out, (hfd.mid hm).mono hvw, hHeld.toBelow (Below.refl _ _) (fun k hk => hk.elim) (Nat.le_refl _)⟩
        ·
          go_simp
          refine hK.out _ _ (hHeld.al _) (fun hNew => ?_)
          have hY : V.heap.size ≤ wc60.heap.size := hHeld.size
          have dXY := BX.lt
          clear hHeld hK K
          have hHeld := hNew
          clear hNew
          try simp only [Act.put, PA, PB]
          refine at_anyH (fun v => GB (fun _ => False) V v ∧ BK v (wc0.heap.size) [.slice none 0 0, .slice none 0 0] ∧ BK v (wc60.heap.size) [.int .i64 0, .int .i64 0]) ⟨hHeld, BX.al _, BK.new _ _ _⟩ (fun wc80 hS => ?_)
          clear hHeld BX
          obtain ⟨hHeld, BX, BY⟩ := hS
          refine wpAnyH_ready (rs := [3]) (by kernel_rfl) (by simp) (AllReadyH.cons (o := _) rfl (fun K hK => ?_) AllReadyH.nil)
          go_simp
          refine (WH.out _).mono ?_
          rintro e wc81 ⟨rfl, hb3⟩
          go_wp2_with fail
          refine hK.out _ _ (hHeld.below hb3) (fun hNew => ?_)
          replace BX := BX.keep hb3
          replace BY := BY.keep hb3
          clear hb3
          clear hHeld hK K
          have hHeld := hNew
          clear hNew
          try simp only [Act.put, PA, PB]
          refine wpAnyH_ready (rs := [6]) (by kernel_rfl) (by simp) (AllReadyH.cons (o := _) rfl (fun K hK => ?_) AllReadyH.nil)
          go_simp
          refine (VL.out _ (hHeld.toBelow hbb (fun k hk => hk.elim) (by omega))).mono ?_
          rintro e wc82 hput
          obtain ⟨A2, m2, ca2, Q2, n2, cq2, l2, rfl, hb3, hm2, hn2, hd2, hfd⟩ := hput.yes HE.out HT.out
          clear hput
          have HM2 := Lib.hid hm2
          have HN2 := Lib.hid hn2
          have HD2 := Lib.hid hd2
          clear hm2 hn2 hd2
          rw [HQX.out, HQY.out]
          have hm := Mid.refl wc81.heap.size wc82
          have hvw := hHeld.size
          go_wp2_with fail
          refine hK.out _ _ (hHeld.below hb3) (fun hNew => ?_)
          have cX := BX.lt
          replace BX := BX.keep hb3
          have cY := BY.lt
          replace BY := BY.keep hb3
          clear hb3
          clear hHeld hK K
          have hHeld := hNew
          clear hNew
          try simp only [Act.put, PA, PB]
          refine wpAnyH_take (i := 7) (oi := _) (v := ?vc83) rfl (by kernel_rfl) (by kernel_rfl) (by kernel_rfl) (fun _ _ _ h => h) (Or.inl ⟨by kernel_rfl, ?hyc83⟩) hHeld ?restc83
          case hyc83 => (intro w hSw; go_simp; first | done | (with_reducible rfl))
          try simp only [Act.put, PA, PB]
          refine wpAnyH_take (i := 8) (oi := _) (v := ?vc84) rfl (by kernel_rfl) (by kernel_rfl) (by kernel_rfl) (fun _ _ _ h => h) (Or.inl ⟨by kernel_rfl, ?hyc84⟩) hHeld ?restc84
          case hyc84 => (intro w hSw; go_simp; first | done | (with_reducible rfl))
          try simp only [Act.put, PA, PB]
          refine wpAnyH_take (i := 9) (oi := _) (v := ?vc85) rfl (by kernel_rfl) (by kernel_rfl) (by kernel_rfl) (fun _ _ _ h => h) (Or.inl ⟨by kernel_rfl, ?hyc85⟩) hHeld ?restc85
          case hyc85 => (intro w hSw; go_simp; first | done | (with_reducible rfl))
          try simp only [Act.put, PA, PB]
          refine wpAnyH_take (i := 10) (oi := _) (v := ?vc86) rfl (by kernel_rfl) (by kernel_rfl) (by kernel_rfl) (fun _ _ _ h => h) (Or.inl ⟨by kernel_rfl, ?hyc86⟩) hHeld ?restc86
          case hyc86 => (intro w hSw; go_simp; first | done | (with_reducible rfl))
          try simp only [Act.put, PA, PB]
          refine wpAnyH_ready (rs := [13]) (by kernel_rfl) (by simp) (AllReadyH.cons (o := _) rfl (fun K hK => ?_) AllReadyH.nil)
          have n0 := BX.c 0 rfl
          have f0 := BX.f 0 rfl
          have n1 := BX.c 1 rfl
          have f1 := BX.f 1 rfl
          go_simp
          clear n0 f0 n1 f1
          refine hK.out _ _ ((hHeld.set (.inr hX) _).set (.inr hX) _) (fun hNew => ?_)
          clear hHeld hK K
          have hHeld := hNew
          clear hNew
          try simp only [Act.put, PA, PB]
          refine at_anyH (fun v => GB (fun _ => False) V v ∧ BK v (wc0.heap.size) [.slice A2 m2 ca2, .slice Q2 n2 cq2] ∧ BK v (wc60.heap.size) [.int .i64 0, .int .i64 0] ∧ Mid wc81.heap.size wc82 v) ⟨hHeld, ((BX.set 0 _).set 1 _), ((BY.far (by omega) _ _).far (by omega) _ _), ((hm.set (by omega) _).set (by omega) _)⟩ (fun wc87 hS => ?_)
          clear hHeld BX BY hm
          obtain ⟨hHeld, BX, BY, hm⟩ := hS
          refine wpAnyH_ready (rs := [14]) (by kernel_rfl) (by simp) (AllReadyH.cons (o := _) rfl (fun K hK => ?_) AllReadyH.nil)
          have n0 := BY.c 0 rfl
          have f0 := BY.f 0 rfl
          have n1 := BY.c 1 rfl
          have f1 := BY.f 1 rfl
          go_simp
          clear n0 f0 n1 f1
          refine hK.out _ _ ((hHeld.set (.inr hY) _).set (.inr hY) _) (fun hNew => ?_)
          clear hHeld hK K
          have hHeld := hNew
          clear hNew
          try simp only [Act.put, PA, PB]
          refine at_anyH (fun v => GB (fun _ => False) V v ∧ BK v (wc0.heap.size) [.slice A2 m2 ca2, .slice Q2 n2 cq2] ∧ BK v (wc60.heap.size) [.int .i64 qx, .int .i64 qy] ∧ Mid wc81.heap.size wc82 v) ⟨hHeld, ((BX.far (by omega) _ _).far (by omega) _ _), ((BY.set 0 _).set 1 _), ((hm.set (by omega) _).set (by omega) _)⟩ (fun wc88 hS => ?_)
          clear hHeld BX BY hm
          obtain ⟨hHeld, BX, BY, hm⟩ := hS
          refine wpAnyH_take (i := 15) (oi := _) (v := ?vc89) rfl (by kernel_rfl) (by kernel_rfl) (by kernel_rfl) (fun _ _ _ h => h) (Or.inl ⟨by kernel_rfl, ?hyc89⟩) hHeld ?restc89
          case hyc89 => (intro w hSw; go_simp; first | done | (with_reducible rfl))
          try simp only [Act.put, PA, PB]
          refine wpAnyH_done (by kernel_rfl) ?_ _
          go_wp2_with fail
          go_meet
          exact ⟨_, _, A2, m2, ca2, Q2, n2, cq2, l2, rfl, rfl, BX, BY, hX, hY, HM2.out, HN2.out, HD2.out, (hfd.mid hm).mono hvw, hHeld.toBelow (Below.refl _ _) (fun k hk => hk.elim) (Nat.le_refl _)⟩
      ·
        go_simp
        refine hK.out _ _ (hHeld.al _) (fun hNew => ?_)
        have hY : V.heap.size ≤ wc0.heap.size := hHeld.size
        clear hHeld hK K
        have hHeld := hNew
        clear hNew
        try simp only [Act.put, PA, PB]
        refine at_anyH (fun v => GB (fun _ => False) V v ∧ BK v (wc0.heap.size) [.int .i64 0, .int .i64 0]) ⟨hHeld, BK.new _ _ _⟩ (fun wc90 hS => ?_)
        clear hHeld
        obtain ⟨hHeld, BY⟩ := hS
        refine wpAnyH_ready (rs := [3, 11]) (by kernel_rfl) (by simp) (AllReadyH.cons (o := _) rfl (fun K hK => ?_) (AllReadyH.cons (o := _) rfl (fun K hK => ?_) AllReadyH.nil))
        ·
          go_simp
          refine (WH.out _).mono ?_
          rintro e wc91 ⟨rfl, hb3⟩
          go_wp2_with fail
          refine hK.out _ _ (hHeld.below hb3) (fun hNew => ?_)
          replace BY := BY.keep hb3
          clear hb3
          clear hHeld hK K
          have hHeld := hNew
          clear hNew
          try simp only [Act.put, PA, PB]
          refine wpAnyH_ready (rs := [6, 11]) (by kernel_rfl) (by simp) (AllReadyH.cons (o := _) rfl (fun K hK => ?_) (AllReadyH.cons (o := _) rfl (fun K hK => ?_) AllReadyH.nil))
          ·
            go_simp
            refine (VL.out _ (hHeld.toBelow hbb (fun k hk => hk.elim) (by omega))).mono ?_
            rintro e wc92 hput
            obtain ⟨A2, m2, ca2, Q2, n2, cq2, l2, rfl, hb3, hm2, hn2, hd2, hfd⟩ := hput.yes HE.out HT.out
            clear hput
            have HM2 := Lib.hid hm2
            have HN2 := Lib.hid hn2
            have HD2 := Lib.hid hd2
            clear hm2 hn2 hd2
            rw [HQX.out, HQY.out]
            have hm := Mid.refl wc91.heap.size wc92
            have hvw := hHeld.size
            go_wp2_with fail
            refine hK.out _ _ (hHeld.below hb3) (fun hNew => ?_)
            have cY := BY.lt
            replace BY := BY.keep hb3
            clear hb3
            clear hHeld hK K
            have hHeld := hNew
            clear hNew
            try simp only [Act.put, PA, PB]
            refine wpAnyH_take (i := 7) (oi := _) (v := ?vc93) rfl (by kernel_rfl) (by kernel_rfl) (by kernel_rfl) (fun _ _ _ h => h) (Or.inl ⟨by kernel_rfl, ?hyc93⟩) hHeld ?restc93
            case hyc93 => (intro w hSw; go_simp; first | done | (with_reducible rfl))
            try simp only [Act.put, PA, PB]
            refine wpAnyH_take (i := 8) (oi := _) (v := ?vc94) rfl (by kernel_rfl) (by kernel_rfl) (by kernel_rfl) (fun _ _ _ h => h) (Or.inl ⟨by kernel_rfl, ?hyc94⟩) hHeld ?restc94
            case hyc94 => (intro w hSw; go_simp; first | done | (with_reducible rfl))
            try simp only [Act.put, PA, PB]
            refine wpAnyH_take (i := 9) (oi := _) (v := ?vc95) rfl (by kernel_rfl) (by kernel_rfl) (by kernel_rfl) (fun _ _ _ h => h) (Or.inl ⟨by kernel_rfl, ?hyc95⟩) hHeld ?restc95
            case hyc95 => (intro w hSw; go_simp; first | done | (with_reducible rfl))
            try simp only [Act.put, PA, PB]
            refine wpAnyH_take (i := 10) (oi := _) (v := ?vc96) rfl (by kernel_rfl) (by kernel_rfl) (by kernel_rfl) (fun _ _ _ h => h) (Or.inl ⟨by kernel_rfl, ?hyc96⟩) hHeld ?restc96
            case hyc96 => (intro w hSw; go_simp; first | done | (with_reducible rfl))
            try simp only [Act.put, PA, PB]
            refine wpAnyH_ready (rs := [11]) (by kernel_rfl) (by simp) (AllReadyH.cons (o := _) rfl (fun K hK => ?_) AllReadyH.nil)
            go_simp
            refine hK.out _ _ (hHeld.al _) (fun hNew => ?_)
            have hX : V.heap.size ≤ wc92.heap.size := hHeld.size
            have dYX := BY.lt
            clear hHeld hK K
            have hHeld := hNew
            clear hNew
            try simp only [Act.put, PA, PB]
            have gXhm := hm.size
            refine at_anyH (fun v => GB (fun _ => False) V v ∧ BK v (wc0.heap.size) [.int .i64 0, .int .i64 0] ∧ BK v (wc92.heap.size) [.slice none 0 0, .slice none 0 0] ∧ Mid wc91.heap.size wc92 v) ⟨hHeld, BY.al _, BK.new _ _ _, hm.al _⟩ (fun wc97 hS => ?_)
            clear hHeld BY hm
            obtain ⟨hHeld, BY, BX, hm⟩ := hS
            refine wpAnyH_ready (rs := [13]) (by kernel_rfl) (by simp) (AllReadyH.cons (o := _) rfl (fun K hK => ?_) AllReadyH.nil)
            have n0 := BX.c 0 rfl
            have f0 := BX.f 0 rfl
            have n1 := BX.c 1 rfl
            have f1 := BX.f 1 rfl
            go_simp
            clear n0 f0 n1 f1
            refine hK.out _ _ ((hHeld.set (.inr hX) _).set (.inr hX) _) (fun hNew => ?_)
            clear hHeld hK K
            have hHeld := hNew
            clear hNew
            try simp only [Act.put, PA, PB]
            refine at_anyH (fun v => GB (fun _ => False) V v ∧ BK v (wc0.heap.size) [.int .i64 0, .int .i64 0] ∧ BK v (wc92.heap.size) [.slice A2 m2 ca2, .slice Q2 n2 cq2] ∧ Mid wc91.heap.size wc92 v) ⟨hHeld, ((BY.far (by omega) _ _).far (by omega) _ _), ((BX.set 0 _).set 1 _), ((hm.set (by omega) _).set (by omega) _)⟩ (fun wc98 hS => ?_)
            clear hHeld BY BX hm
            obtain ⟨hHeld, BY, BX, hm⟩ := hS
            refine wpAnyH_ready (rs := [14]) (by kernel_rfl) (by simp) (AllReadyH.cons (o := _) rfl (fun K hK => ?_) AllReadyH.nil)
            have n0 := BY.c 0 rfl
            have f0 := BY.f 0 rfl
            have n1 := BY.c 1 rfl
            have f1 := BY.f 1 rfl
            go_simp
            clear n0 f0 n1 f1
            refine hK.out _ _ ((hHeld.set (.inr hY) _).set (.inr hY) _) (fun hNew => ?_)
            clear hHeld hK K
            have hHeld := hNew
            clear hNew
            try simp only [Act.put, PA, PB]
            refine at_anyH (fun v => GB (fun _ => False) V v ∧ BK v (wc0.heap.size) [.int .i64 qx, .int .i64 qy] ∧ BK v (wc92.heap.size) [.slice A2 m2 ca2, .slice Q2 n2 cq2] ∧ Mid wc91.heap.size wc92 v) ⟨hHeld, ((BY.set 0 _).set 1 _), ((BX.far (by omega) _ _).far (by omega) _ _), ((hm.set (by omega) _).set (by omega) _)⟩ (fun wc99 hS => ?_)
            clear hHeld BY BX hm
            obtain ⟨hHeld, BY, BX, hm⟩ := hS
            refine wpAnyH_take (i := 15) (oi := _) (v := ?vc100) rfl (by kernel_rfl) (by kernel_rfl) (by kernel_rfl) (fun _ _ _ h => h) (Or.inl ⟨by kernel_rfl, ?hyc100⟩) hHeld ?restc100
            case hyc100 => (intro w hSw; go_simp; first | done | (with_reducible rfl))
            try simp only [Act.put, PA, PB]
            refine wpAnyH_done (by kernel_rfl) ?_ _
            go_wp2_with fail
            go_meet
            exact ⟨_, _, A2, m2, ca2, Q2, n2, cq2, l2, rfl, rfl, BX, BY, hX, hY, HM2.out, HN2.out, HD2.out, (hfd.mid hm).mono hvw, hHeld.toBelow (Below.refl _ _) (fun k hk => hk.elim) (Nat.le_refl _)⟩
          ·
            go_simp
            refine hK.out _ _ (hHeld.al _) (fun hNew => ?_)
            have hX : V.heap.size ≤ wc91.heap.size := hHeld.size
            have dYX := BY.lt
            clear hHeld hK K
            have hHeld := hNew
            clear hNew
            try simp only [Act.put, PA, PB]
            refine at_anyH (fun v => GB (fun _ => False) V v ∧ BK v (wc0.heap.size) [.int .i64 0, .int .i64 0] ∧ BK v (wc91.heap.size) [.slice none 0 0, .slice none 0 0]) ⟨hHeld, BY.al _, BK.new _ _ _⟩ (fun wc101 hS => ?_)
            clear hHeld BY
            obtain ⟨hHeld, BY, BX⟩ := hS
            refine wpAnyH_ready (rs := [6]) (by kernel_rfl) (by simp) (AllReadyH.cons (o := _) rfl (fun K hK => ?_) AllReadyH.nil)
            go_simp
            refine (VL.out _ (hHeld.toBelow hbb (fun k hk => hk.elim) (by omega))).mono ?_
            rintro e wc102 hput
            obtain ⟨A2, m2, ca2, Q2, n2, cq2, l2, rfl, hb3, hm2, hn2, hd2, hfd⟩ := hput.yes HE.out HT.out
            clear hput
            have HM2 := Lib.hid hm2
            have HN2 := Lib.hid hn2
            have HD2 := Lib.hid hd2
            clear hm2 hn2 hd2
            rw [HQX.out, HQY.out]
            have hm := Mid.refl wc101.heap.size wc102
            have hvw := hHeld.size
            go_wp2_with fail
            refine hK.out _ _ (hHeld.below hb3) (fun hNew => ?_)
            have cY := BY.lt
            replace BY := BY.keep hb3
            have cX := BX.lt
            replace BX := BX.keep hb3
            clear hb3
            clear hHeld hK K
            have hHeld := hNew
            clear hNew
            try simp only [Act.put, PA, PB]
            refine wpAnyH_take (i := 7) (oi := _) (v := ?vc103) rfl (by kernel_rfl) (by kernel_rfl) (by kernel_rfl) (fun _ _ _ h => h) (Or.inl ⟨by kernel_rfl, ?hyc103⟩) hHeld ?restc103
            case hyc103 => (intro w hSw; go_simp; first | done | (with_reducible rfl))
            try simp only [Act.put, PA, PB]
            refine wpAnyH_take (i := 8) (oi := _) (v := ?vc104) rfl (by kernel_rfl) (by kernel_rfl) (by kernel_rfl) (fun _ _ _ h => h) (Or.inl ⟨by kernel_rfl, ?hyc104⟩) hHeld ?restc104
            case hyc104 => (intro w hSw; go_simp; first | done | (with_reducible rfl))
            try simp only [Act.put, PA, PB]
            refine wpAnyH_take (i := 9) (oi := _) (v := ?vc105) rfl (by kernel_rfl) (by kernel_rfl) (by kernel_rfl) (fun _ _ _ h => h) (Or.inl ⟨by kernel_rfl, ?hyc105⟩) hHeld ?restc105
            case hyc105 => (intro w hSw; go_simp; first | done | (with_reducible rfl))
            try simp only [Act.put, PA, PB]
            refine wpAnyH_take (i := 10) (oi := _) (v := ?vc106) rfl (by kernel_rfl) (by kernel_rfl) (by kernel_rfl) (fun _ _ _ h => h) (Or.inl ⟨by kernel_rfl, ?hyc106⟩) hHeld ?restc106
            case hyc106 => (intro w hSw; go_simp; first | done | (with_reducible rfl))
            try simp only [Act.put, PA, PB]
            refine wpAnyH_ready (rs := [13]) (by kernel_rfl) (by simp) (AllReadyH.cons (o := _) rfl (fun K hK => ?_) AllReadyH.nil)
            have n0 := BX.c 0 rfl
            have f0 := BX.f 0 rfl
            have n1 := BX.c 1 rfl
            have f1 := BX.f 1 rfl
            go_simp
            clear n0 f0 n1 f1
            refine hK.out _ _ ((hHeld.set (.inr hX) _).set (.inr hX) _) (fun hNew => ?_)
            clear hHeld hK K
            have hHeld := hNew
            clear hNew
            try simp only [Act.put, PA, PB]
            refine at_anyH (fun v => GB (fun _ => False) V v ∧ BK v (wc0.heap.size) [.int .i64 0, .int .i64 0] ∧ BK v (wc91.heap.size) [.slice A2 m2 ca2, .slice Q2 n2 cq2] ∧ Mid wc101.heap.size wc102 v) ⟨hHeld, ((BY.far (by omega) _ _).far (by omega) _ _), ((BX.set 0 _).set 1 _), ((hm.set (by omega) _).set (by omega) _)⟩ (fun wc107 hS => ?_)
            clear hHeld BY BX hm
            obtain ⟨hHeld, BY, BX, hm⟩ := hS
            refine wpAnyH_ready (rs := [14]) (by kernel_rfl) (by simp) (AllReadyH.cons (o := _) rfl (fun K hK => ?_) AllReadyH.nil)
            have n0 := BY.c 0 rfl
            have f0 := BY.f 0 rfl
            have n1 := BY.c 1 rfl
            have f1 := BY.f 1 rfl
            go_simp
            clear n0 f0 n1 f1
            refine hK.out _ _ ((hHeld.set (.inr hY) _).set (.inr hY) _) (fun hNew => ?_)
            clear hHeld hK K
            have hHeld := hNew
            clear hNew
            try simp only [Act.put, PA, PB]
            refine at_anyH (fun v => GB (fun _ => False) V v ∧ BK v (wc0.heap.size) [.int .i64 qx, .int .i64 qy] ∧ BK v (wc91.heap.size) [.slice A2 m2 ca2, .slice Q2 n2 cq2] ∧ Mid wc101.heap.size wc102 v) ⟨hHeld, ((BY.set 0 _).set 1 _), ((BX.far (by omega) _ _).far (by omega) _ _), ((hm.set (by omega) _).set (by omega) _)⟩ (fun wc108 hS => ?_)
            clear hHeld BY BX hm
            obtain ⟨hHeld, BY, BX, hm⟩ := hS
            refine wpAnyH_take (i := 15) (oi := _) (v := ?vc109) rfl (by kernel_rfl) (by kernel_rfl) (by kernel_rfl) (fun _ _ _ h => h) (Or.inl ⟨by kernel_rfl, ?hyc109⟩) hHeld ?restc109
            case hyc109 => (intro w hSw; go_simp; first | done | (with_reducible rfl))
            try simp only [Act.put, PA, PB]
            refine wpAnyH_done (by kernel_rfl) ?_ _
            go_wp2_with fail
            go_meet
            exact ⟨_, _, A2, m2, ca2, Q2, n2, cq2, l2, rfl, rfl, BX, BY, hX, hY, HM2.out, HN2.out, HD2.out, (hfd.mid hm).mono hvw, hHeld.toBelow (Below.refl _ _) (fun k hk => hk.elim) (Nat.le_refl _)⟩
        ·
          go_simp
          refine hK.out _ _ (hHeld.al _) (fun hNew => ?_)
          have hX : V.heap.size ≤ wc90.heap.size := hHeld.size
          have dYX := BY.lt
          clear hHeld hK K
          have hHeld := hNew
          clear hNew
          try simp only [Act.put, PA, PB]
          refine at_anyH (fun v => GB (fun _ => False) V v ∧ BK v (wc0.heap.size) [.int .i64 0, .int .i64 0] ∧ BK v (wc90.heap.size) [.slice none 0 0, .slice none 0 0]) ⟨hHeld, BY.al _, BK.new _ _ _⟩ (fun wc110 hS => ?_)
          clear hHeld BY
          obtain ⟨hHeld, BY, BX⟩ := hS
          refine wpAnyH_ready (rs := [3]) (by kernel_rfl) (by simp) (AllReadyH.cons (o := _) rfl (fun K hK => ?_) AllReadyH.nil)
          go_simp
          refine (WH.out _).mono ?_
          rintro e wc111 ⟨rfl, hb3⟩
          go_wp2_with fail
          refine hK.out _ _ (hHeld.below hb3) (fun hNew => ?_)
          replace BY := BY.keep hb3
          replace BX := BX.keep hb3
          clear hb3
          clear hHeld hK K
          have hHeld := hNew
          clear hNew
          try simp only [Act.put, PA, PB]
          refine wpAnyH_ready (rs := [6]) (by kernel_rfl) (by simp) (AllReadyH.cons (o := _) rfl (fun K hK => ?_) AllReadyH.nil)
          go_simp
          refine (VL.out _ (hHeld.toBelow hbb (fun k hk => hk.elim) (by omega))).mono ?_
          rintro e wc112 hput
          obtain ⟨A2, m2, ca2, Q2, n2, cq2, l2, rfl, hb3, hm2, hn2, hd2, hfd⟩ := hput.yes HE.out HT.out
          clear hput
          have HM2 := Lib.hid hm2
          have HN2 := Lib.hid hn2
          have HD2 := Lib.hid hd2
          clear hm2 hn2 hd2
          rw [HQX.out, HQY.out]
          have hm := Mid.refl wc111.heap.size wc112
          have hvw := hHeld.size
          go_wp2_with fail
          refine hK.out _ _ (hHeld.below hb3) (fun hNew => ?_)
          have cY := BY.lt
          replace BY := BY.keep hb3
          have cX := BX.lt
          replace BX := BX.keep hb3
          clear hb3
          clear hHeld hK K
          have hHeld := hNew
          clear hNew
          try simp only [Act.put, PA, PB]
          refine wpAnyH_take (i := 7) (oi := _) (v := ?vc113) rfl (by kernel_rfl) (by kernel_rfl) (by kernel_rfl) (fun _ _ _ h => h) (Or.inl ⟨by kernel_rfl, ?hyc113⟩) hHeld ?restc113
          case hyc113 => (intro w hSw; go_simp; first | done | (with_reducible rfl))
          try simp only [Act.put, PA, PB]
          refine wpAnyH_take (i := 8) (oi := _) (v := ?vc114) rfl (by kernel_rfl) (by kernel_rfl) (by kernel_rfl) (fun _ _ _ h => h) (Or.inl ⟨by kernel_rfl, ?hyc114⟩) hHeld ?restc114
          case hyc114 => (intro w hSw; go_simp; first | done | (with_reducible rfl))
          try simp only [Act.put, PA, PB]
          refine wpAnyH_take (i := 9) (oi := _) (v := ?vc115) rfl (by kernel_rfl) (by kernel_rfl) (by kernel_rfl) (fun _ _ _ h => h) (Or.inl ⟨by kernel_rfl, ?hyc115⟩) hHeld ?restc115
          case hyc115 => (intro w hSw; go_simp; first | done | (with_reducible rfl))
          try simp only [Act.put, PA, PB]
          refine wpAnyH_take (i := 10) (oi := _) (v := ?vc116) rfl (by kernel_rfl) (by kernel_rfl) (by kernel_rfl) (fun _ _ _ h => h) (Or.inl ⟨by kernel_rfl, ?hyc116⟩) hHeld ?restc116
          case hyc116 => (intro w hSw; go_simp; first | done | (with_reducible rfl))
          try simp only [Act.put, PA, PB]
          refine wpAnyH_ready (rs := [13]) (by kernel_rfl) (by simp) (AllReadyH.cons (o := _) rfl (fun K hK => ?_) AllReadyH.nil)
          have n0 := BX.c 0 rfl
          have f0 := BX.f 0 rfl
          have n1 := BX.c 1 rfl
          have f1 := BX.f 1 rfl
          go_simp
          clear n0 f0 n1 f1
          refine hK.out _ _ ((hHeld.set (.inr hX) _).set (.inr hX) _) (fun hNew => ?_)
          clear hHeld hK K
          have hHeld := hNew
          clear hNew
          try simp only [Act.put, PA, PB]
          refine at_anyH (fun v => GB (fun _ => False) V v ∧ BK v (wc0.heap.size) [.int .i64 0, .int .i64 0] ∧ BK v (wc90.heap.size) [.slice A2 m2 ca2, .slice Q2 n2 cq2] ∧ Mid wc111.heap.size wc112 v) ⟨hHeld, ((BY.far (by omega) _ _).far (by omega) _ _), ((BX.set 0 _).set 1 _), ((hm.set (by omega) _).set (by omega) _)⟩ (fun wc117 hS => ?_)
          clear hHeld BY BX hm
          obtain ⟨hHeld, BY, BX, hm⟩ := hS
          refine wpAnyH_ready (rs := [14]) (by kernel_rfl) (by simp) (AllReadyH.cons (o := _) rfl (fun K hK => ?_) AllReadyH.nil)
          have n0 := BY.c 0 rfl
          have f0 := BY.f 0 rfl
          have n1 := BY.c 1 rfl
          have f1 := BY.f 1 rfl
          go_simp
          clear n0 f0 n1 f1
          refine hK.out _ _ ((hHeld.set (.inr hY) _).set (.inr hY) _) (fun hNew => ?_)
          clear hHeld hK K
          have hHeld := hNew
          clear hNew
          try simp only [Act.put, PA, PB]
          refine at_anyH (fun v => GB (fun _ => False) V v ∧ BK v (wc0.heap.size) [.int .i64 qx, .int .i64 qy] ∧ BK v (wc90.heap.size) [.slice A2 m2 ca2, .slice Q2 n2 cq2] ∧ Mid wc111.heap.size wc112 v) ⟨hHeld, ((BY.set 0 _).set 1 _), ((BX.far (by omega) _ _).far (by omega) _ _), ((hm.set (by omega) _).set (by omega) _)⟩ (fun wc118 hS => ?_)
          clear hHeld BY BX hm
          obtain ⟨hHeld, BY, BX, hm⟩ := hS
          refine wpAnyH_take (i := 15) (oi := _) (v := ?vc119) rfl (by kernel_rfl) (by kernel_rfl) (by kernel_rfl) (fun _ _ _ h => h) (Or.inl ⟨by kernel_rfl, ?hyc119⟩) hHeld ?restc119
          case hyc119 => (intro w hSw; go_simp; first | done | (with_reducible rfl))
          try simp only [Act.put, PA, PB]
          refine wpAnyH_done (by kernel_rfl) ?_ _
          go_wp2_with fail
          go_meet
          exact ⟨_, _, A2, m2, ca2, Q2, n2, cq2, l2, rfl, rfl, BX, BY, hX, hY, HM2.out, HN2.out, HD2.out, (hfd.mid hm).mono hvw, hHeld.toBelow (Below.refl _ _) (fun k hk => hk.elim) (Nat.le_refl _)⟩
  case rest =>
    obtain ⟨p4', p5', A2, m2, ca2, Q2, n2, cq2, l2, rfl, rfl, B4, B5, hp4, hp5, hm2, hn2, hd2, hfd, hb⟩ := hcut
    clear p0 p1 p4 p5
    have HM2 := Lib.hid hm2
    have HN2 := Lib.hid hn2
    have HD2 := Lib.hid hd2
    clear hm2 hn2 hd2
    replace hbb := keepB hbb hb
    replace B0 := B0.keep hb
    replace B1 := B1.keep hb
    have hV1 := hb.size
    clear hb
    go_upto_region 3 with fail
    refine at_worldQ (fun v => Below w.heap.size w v ∧ BK v w.heap.size [.slice A cs.length ca, .slice Q qs.length cq, .int .i64 k, .int .i64 st, .int .i64 x, .int .i64 y, .bool b] ∧ BK v (w.heap.size + 1) [.slice none 0 0, .slice none 0 0, .int .i64 0, .int .i64 0, .int .i64 0, .int .i64 0, .bool false] ∧ BK v p4' [.slice A2 m2 ca2, .slice Q2 n2 cq2] ∧ BK v p5' [.int .i64 qx, .int .i64 qy] ∧ FD v (w.heap.size + 2) A2 ca2 l2 Q2 cq2 (qs ++ [q]) ∧ w.heap.size ≤ v.heap.size ∧ w.heap.size + 2 ≤ p4') ⟨hbb, B0, B1, B4, B5, hfd.mono hV0, by omega, by omega⟩ (fun V hS => ?_)
    clear hbb B0 B1 B4 B5 hfd hV0 hV1 hp4 hp5
    obtain ⟨hbb, B0, B1, B4, B5, hfd, hBV, hp4⟩ := hS
    have p0 := B0.c 0 rfl
    have p1 := B0.c 1 rfl
    have e0 := B5.c 0 rfl
    have e1 := B5.c 1 rfl
    refine wp_region_noPanic ?_
    refine wp_region_held_drew (S := (GB (fun _ => False) V)) (by kernel_rfl) ((GB.refl _ _).drew) (fun hHeld => ?_)
    refine at_anyH (fun v => GB (fun _ => False) V v) hHeld (fun wd0 hNew => ?_)
    clear hHeld
    have hHeld := hNew
    clear hNew
    refine wpAnyH_take (i := 0) (oi := _) (v := ?vd1) rfl (by kernel_rfl) (by kernel_rfl) (by kernel_rfl) (fun _ _ _ h => h) (Or.inl ⟨by kernel_rfl, ?hyd1⟩) hHeld ?restd1
    case hyd1 => (intro w hSw; have kp0 := hSw.cell (fun h => h) p0; have kp1 := hSw.cell (fun h => h) p1; have ke0 := hSw.cell (fun h => h) e0; have ke1 := hSw.cell (fun h => h) e1; go_simp; first | done | (with_reducible rfl))
    try simp only [Act.put, PA, PB]
    refine wpAnyH_take (i := 1) (oi := _) (v := ?vd2) rfl (by kernel_rfl) (by kernel_rfl) (by kernel_rfl) (fun _ _ _ h => h) (Or.inl ⟨by kernel_rfl, ?hyd2⟩) hHeld ?restd2
    case hyd2 => (intro w hSw; go_simp; first | done | (with_reducible rfl))
    try simp only [Act.put, PA, PB]
    refine wpAnyH_take (i := 2) (oi := _) (v := ?vd3) rfl (by kernel_rfl) (by kernel_rfl) (by kernel_rfl) (fun _ _ _ h => h) (Or.inl ⟨by kernel_rfl, ?hyd3⟩) hHeld ?restd3
    case hyd3 => (intro w hSw; have kp0 := hSw.cell (fun h => h) p0; have kp1 := hSw.cell (fun h => h) p1; have ke0 := hSw.cell (fun h => h) e0; have ke1 := hSw.cell (fun h => h) e1; go_simp; first | done | (with_reducible rfl))
    try simp only [Act.put, PA, PB]
    refine wpAnyH_take (i := 3) (oi := _) (v := ?vd4) rfl (by kernel_rfl) (by kernel_rfl) (by kernel_rfl) (fun _ _ _ h => h) (Or.inl ⟨by kernel_rfl, ?hyd4⟩) hHeld ?restd4
    case hyd4 => (intro w hSw; go_simp; first | done | (with_reducible rfl))
    try simp only [Act.put, PA, PB]
    refine wpAnyH_ready (rs := [4]) (by kernel_rfl) (by simp) (AllReadyH.cons (o := _) rfl (fun K hK => ?_) AllReadyH.nil)
    go_simp
    refine (HF.out _ (hHeld.toBelow hbb (fun k hk => hk.elim) hBV)).mono ?_
    rintro e wd5 ⟨rfl, hb3⟩
    go_wp2_with fail
    refine hK.out _ _ (hHeld.below hb3) (fun hNew => ?_)
    clear hb3
    clear hHeld hK K
    have hHeld := hNew
    clear hNew
    try simp only [Act.put, PA, PB]
    refine wpAnyH_ready (rs := [5]) (by kernel_rfl) (by simp) (AllReadyH.cons (o := _) rfl (fun K hK => ?_) AllReadyH.nil)
    go_simp
    refine (CM.out _).mono ?_
    rintro e wd6 ⟨rfl, hb3⟩
    go_wp2_with fail
    refine hK.out _ _ (hHeld.below hb3) (fun hNew => ?_)
    clear hb3
    clear hHeld hK K
    have hHeld := hNew
    clear hNew
    try simp only [Act.put, PA, PB]
    refine wpAnyH_take (i := 6) (oi := _) (v := ?vd7) rfl (by kernel_rfl) (by kernel_rfl) (by kernel_rfl) (fun _ _ _ h => h) (Or.inl ⟨by kernel_rfl, ?hyd7⟩) hHeld ?restd7
    case hyd7 => (intro w hSw; go_simp; first | done | (with_reducible rfl))
    try simp only [Act.put, PA, PB]
    refine wpAnyH_take (i := 7) (oi := _) (v := ?vd8) rfl (by kernel_rfl) (by kernel_rfl) (by kernel_rfl) (fun _ _ _ h => h) (Or.inl ⟨by kernel_rfl, ?hyd8⟩) hHeld ?restd8
    case hyd8 => (intro w hSw; go_simp; first | done | (with_reducible rfl))
    try simp only [Act.put, PA, PB]
    refine wpAnyH_take (i := 8) (oi := _) (v := ?vd9) rfl (by kernel_rfl) (by kernel_rfl) (by kernel_rfl) (fun _ _ _ h => h) (Or.inl ⟨by kernel_rfl, ?hyd9⟩) hHeld ?restd9
    case hyd9 => (intro w hSw; go_simp; first | done | (with_reducible rfl))
    try simp only [Act.put, PA, PB]
    refine wpAnyH_take (i := 9) (oi := _) (v := ?vd10) rfl (by kernel_rfl) (by kernel_rfl) (by kernel_rfl) (fun _ _ _ h => h) (Or.inl ⟨by kernel_rfl, ?hyd10⟩) hHeld ?restd10
    case hyd10 => (intro w hSw; go_simp; first | done | (with_reducible rfl))
    try simp only [Act.put, PA, PB]
    refine wpAnyH_take (i := 10) (oi := _) (v := ?vd11) rfl (by kernel_rfl) (by kernel_rfl) (by kernel_rfl) (fun _ _ _ h => h) (Or.inl ⟨by kernel_rfl, ?hyd11⟩) hHeld ?restd11
    case hyd11 => (intro w hSw; go_simp; first | done | (with_reducible rfl))
    try simp only [Act.put, PA, PB]
    refine wpAnyH_done (by kernel_rfl) ?_ _
    refine NoPanic.normal ?_
    have hbb2 := hHeld.toBelow hbb (fun k hk => hk.elim) hBV
    have B0 := B0.gb hHeld (fun h => h)
    have B1 := B1.gb hHeld (fun h => h)
    have B4 := B4.gb hHeld (fun h => h)
    have hfd2 := hfd.keep (hHeld.toBelow (Below.refl _ _) (fun k hk => hk.elim) (Nat.le_refl _))
    have hlt := B1.lt
    have hlt4 := B4.lt
    clear hfd B5
    have xa0 := B0.c 0 rfl
    have xa1 := B0.c 1 rfl
    have xa2 := B0.c 2 rfl
    have xa3 := B0.c 3 rfl
    have xa4 := B0.c 4 rfl
    have xa5 := B0.c 5 rfl
    have xa6 := B0.c 6 rfl
    have xb0 := B0.f 0 rfl
    have xb1 := B0.f 1 rfl
    have xb2 := B0.f 2 rfl
    have xb3 := B0.f 3 rfl
    have xb4 := B0.f 4 rfl
    have xb5 := B0.f 5 rfl
    have xb6 := B0.f 6 rfl
    have ya0 := B1.c 0 rfl
    have ya1 := B1.c 1 rfl
    have ya2 := B1.c 2 rfl
    have ya3 := B1.c 3 rfl
    have ya4 := B1.c 4 rfl
    have ya5 := B1.c 5 rfl
    have ya6 := B1.c 6 rfl
    have yb0 := B1.f 0 rfl
    have yb1 := B1.f 1 rfl
    have yb2 := B1.f 2 rfl
    have yb3 := B1.f 3 rfl
    have yb4 := B1.f 4 rfl
    have yb5 := B1.f 5 rfl
    have yb6 := B1.f 6 rfl
    have ze0 := B4.c 0 rfl
    have ze1 := B4.c 1 rfl
    go_wp2_with fail
    exact bodyPost_ret (v := .agg #[.slice A2 m2 ca2, .slice Q2 n2 cq2, .int .i64 k, .int .i64 2, .int .i64 x, .int .i64 y, .bool (decide (0 ≤ z))]) (by simp [results, Try.results111, go_sem, ya0, ya1, ya2, ya3, ya4, ya5, ya6]) rfl ⟨A2, m2, ca2, Q2, n2, cq2, l2, rfl, (below_set (below_set (below_set (below_set (below_set (below_set (below_set (below_set (below_set (below_set (below_set hbb2 (by omega) _) (by omega) _) (by omega) _) (by omega) _) (by omega) _) (by omega) _) (by omega) _) (by omega) _) (by omega) _) (by omega) _) (by omega) _), HM2.out, HN2.out, HD2.out, ((((((((((((hfd2.set (by omega) _).set (by omega) _).set (by omega) _).set (by omega) _).set (by omega) _).set (by omega) _).set (by omega) _).set (by omega) _).set (by omega) _).set (by omega) _).set (by omega) _).mono (by omega))⟩
end Go.Proofs.Ytaaamcleilpnhaa
