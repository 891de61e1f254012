/- The reference of layer 13: Least, Best, Prices. The reference of layer 13: Best, Prices; SameLists of equal lists. -/
import Derived.Test.YtfpaefnaidppmaaAfq
import Derived.Test.YtfpaefnaidppmaaYf
import Derived.Test.YtfpaefnaidppmaaYg
namespace Go.Proofs.Ytfpaefnaidppmaa
open Go.RowKit
end Go.Proofs.Ytfpaefnaidppmaa
namespace Go.Proofs.Ytfpaefnaidppmaa
open Go.RowKit
set_option maxRecDepth 100000 in
set_option maxHeartbeats 4000000 in
theorem sameLists_eq (A : Option Addr) (ca : Nat) (B : Option Addr) (cb : Nat) (V : List (List Int)) (w : World) (hl : V.length ≤ maxLen) (hA : IsM w A V) (hB : IsM w B V) :
    Calls Try.prog 21 #[.slice A V.length ca, .slice B V.length cb] w fun e w' => e = .returned (.bool true) ∧ Below w.heap.size w w' := by
  unfold maxLen at hl
  have HA := Lib.hid hA
  have HB := Lib.hid hB
  clear hA hB
  have e0 : ((V.length : Int) != V.length) = false := by simp
  go_enter Try.func21, Try.ntmps21
  go_wp2_with fail
  go_loopw [5] (fun i W => ∃ k : Nat, k ≤ V.length ∧ i = .int .i64 k ∧ Below w.heap.size w W) (fun i _ => V.length - (intOf i).toNat)
  case atStart => exact ⟨0, Nat.zero_le _, rfl, Below.refl _ _⟩
  case round =>
    obtain ⟨k, hk, rfl, hbb⟩ := hrel
    by_cases hlt : k < V.length
    · obtain ⟨b1, o1, rfl, h1⟩ := HA.out (by omega)
      obtain ⟨b2, o2, rfl, h2⟩ := HB.out (by omega)
      obtain ⟨R1, c1, k1, hm1, hI1⟩ := h1 k hlt
      obtain ⟨R2, c2, k2, hm2, hI2⟩ := h2 k hlt
      have x1 := keepC hbb k1
      have x2 := keepC hbb k2
      have HS := Lib.hid (fun v (hv : Below w.heap.size w v) => same_eq R1 c1 R2 c2 (V.getD k []) v hm1 (hI1.keep hv) (hI2.keep hv))
      clear h1 h2 k1 k2 hI1 hI2 hm2
      unfold maxLen at hm1
      generalize (V.getD k []).length = q at *
      have i1 : (k : Int) < (V.length : Int) := by omega
      have HBB := Lib.hid hbb
      go_upto_region 6 with fail
      go_region_with (first
        | (go_at_call 23; refine (HS.out _ (by first | exact HBB.out | exact HBB.out.drew)).mono ?_; rintro e w3 ⟨rfl, hb3⟩))
      all_goals
        have hbb3 : Below w.heap.size w w3 := (by first | exact keepB HBB.out hb3 | exact keepB HBB.out.drew hb3)
        clear x1 x2 hb3 hbb
        go_wp2_with fail
        go_roundw
        case rel => exact ⟨k + 1, by omega, by go_num, hbb3⟩
        case measure => simp [intOf]; omega
    · obtain rfl : k = V.length := by omega
      go_wp2_with fail
      go_ret
      exact ⟨rfl, hbb⟩
end Go.Proofs.Ytfpaefnaidppmaa
