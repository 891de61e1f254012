/- Contract of the reference's minus where the second number is the greater one: the difference goes round. -/
import Derived.Test.YtbcnngjcggddbaaDoorRef
namespace Go.Proofs.YtbcnngjcggddbaaDoor
open Go.RowKit

set_option maxHeartbeats 1000000 in
theorem rminus_wrap (h1 l1 h2 l2 : Int) (a0 : 0 ≤ h1) (a1 : h1 < 18446744073709551616) (b0 : 0 ≤ l1) (b1 : l1 < 18446744073709551616) (c0 : 0 ≤ h2) (c1 : h2 < 18446744073709551616) (d0 : 0 ≤ l2) (d1 : l2 < 18446744073709551616)
    (hs : W h1 l1 < W h2 l2) (w : World) :
    Calls Tryd.prog 35 #[.agg #[.int .u64 h1, .int .u64 l1], .agg #[.int .u64 h2, .int .u64 l2]] w fun e w' =>
      e = .returned (.agg #[.int .u64 ((W h1 l1 - W h2 l2 + 340282366920938463463374607431768211456) / 18446744073709551616), .int .u64 ((W h1 l1 - W h2 l2 + 340282366920938463463374607431768211456) % 18446744073709551616)]) ∧ Below w.heap.size w w' := by
  by_cases hc : l1 < l2
  · have k2 : (W h1 l1 - W h2 l2 + 340282366920938463463374607431768211456) % 18446744073709551616 = l1 - l2 + 18446744073709551616 := by unfold W; omega
    have e1 : IntKind.u64.wrap (l1 - l2) = l1 - l2 + 18446744073709551616 := by rw [IntKind.wrap_u64]; omega
    have k1 : (W h1 l1 - W h2 l2 + 340282366920938463463374607431768211456) / 18446744073709551616 = h1 - h2 - 1 + 18446744073709551616 := by unfold W at *; omega
    have e2 : IntKind.u64.wrap (IntKind.u64.wrap (h1 - h2) - 1) = h1 - h2 - 1 + 18446744073709551616 := by rw [IntKind.wrap_u64, IntKind.wrap_u64]; unfold W at *; omega
    rw [k1, k2]
    generalize l1 - l2 + 18446744073709551616 = L at *
    generalize h1 - h2 - 1 + 18446744073709551616 = H at *
    generalize hH0 : IntKind.u64.wrap (h1 - h2) = H0 at *
    clear k1 k2 hs a0 a1 c0 c1
    go_enter Tryd.func35, Tryd.ntmps35
    go_wp2
    exact bodyPost_ret (v := .agg #[.int .u64 H, .int .u64 L]) (by simp [results, Tryd.results35, go_sem]) rfl ⟨rfl, ((((Below.refl _ _).alloc (Nat.le_refl _) _).alloc (by simp) _).alloc (by simp; omega) _)⟩
  · have k2 : (W h1 l1 - W h2 l2 + 340282366920938463463374607431768211456) % 18446744073709551616 = l1 - l2 := by unfold W; omega
    have k1 : (W h1 l1 - W h2 l2 + 340282366920938463463374607431768211456) / 18446744073709551616 = h1 - h2 + 18446744073709551616 := by unfold W at *; omega
    have e2 : IntKind.u64.wrap (h1 - h2) = h1 - h2 + 18446744073709551616 := by rw [IntKind.wrap_u64]; unfold W at *; omega
    rw [k1, k2]
    generalize h1 - h2 + 18446744073709551616 = H at *
    clear k1 k2 hs a0 a1 c0 c1
    go_enter Tryd.func35, Tryd.ntmps35
    go_wp2
    exact bodyPost_ret (v := .agg #[.int .u64 H, .int .u64 (l1 - l2)]) (by simp [results, Tryd.results35, go_sem]) rfl ⟨rfl, ((((Below.refl _ _).alloc (Nat.le_refl _) _).alloc (by simp) _).alloc (by simp; omega) _)⟩
end Go.Proofs.YtbcnngjcggddbaaDoor
