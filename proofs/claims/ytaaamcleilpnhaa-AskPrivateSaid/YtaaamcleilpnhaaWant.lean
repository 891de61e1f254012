/- Contracts of package cake's someWanted and of the library's search that it calls. -/
import Derived.Test.YtaaamcleilpnhaaCk
import Derived.LoopTactic
namespace Go.Proofs.Ytaaamcleilpnhaa
open Go.RowKit

theorem pos_any (x : Int) (w : World) : Calls Try.prog 113 #[.int .i64 x] w fun e w' => e = .returned (.bool (decide (0 < x))) ∧ w = w' := by
  go_enter Try.func113, Try.ntmps113
  go_wp2
  go_ret
  exact ⟨rfl, rfl⟩

set_option maxHeartbeats 1000000 in
set_option maxRecDepth 100000 in
theorem index_any (A : Option Addr) (zs : List Int) (cap : Nat) (w : World) (hl : zs.length ≤ maxLen) (h : IsI w A zs) :
    Calls Try.prog 124 #[.slice A zs.length cap, .func (.func 113) #[] #[]] w fun e w' => (∃ r : Int, e = .returned (.int .i64 r) ∧ decide (0 ≤ r) = Ck.wanted zs) ∧ w = w' := by
  unfold maxLen at hl
  go_enter Try.func124, Try.ntmps124
  go_wp2_with fail
  go_loop [5, 8] (fun _ i => ∃ k : Nat, k ≤ zs.length ∧ i = .int .i64 k ∧ Hid (∀ j, j < k → Ck.at_ zs j ≤ 0)) (fun _ i => zs.length - (intOf i).toNat)
  case atStart => exact ⟨0, Nat.zero_le _, rfl, fun j hj => absurd hj (by omega)⟩
  case round =>
    obtain ⟨k, hk, rfl, hn⟩ := hrel
    by_cases hlt : k < zs.length
    · obtain ⟨b, off, rfl, hc⟩ := h.1 (by omega)
      have hx := hc k hlt
      have HW := Lib.hid (fun (hp : 0 < Ck.at_ zs k) => Ck.wanted_of hlt hp)
      have HS := Lib.hid (fun (hp : Ck.at_ zs k ≤ 0) j (hj : j < k + 1) => by
        rcases Nat.lt_or_ge j k with h1 | h1
        · exact hn.out j h1
        · obtain rfl : j = k := by omega
          exact hp)
      clear hc h
      generalize Ck.at_ zs k = x at *
      by_cases hp : 0 < x
      · have hd : decide (0 < x) = true := decide_eq_true hp
        have HW2 := Lib.hid (HW.out hp)
        clear HW HS hp
        go_wp2_with (go_at_call 113; refine (pos_any _ _).mono ?_; rintro e w' ⟨rfl, rfl⟩)
        go_ret
        exact ⟨⟨_, rfl, by rw [HW2.out]; exact decide_eq_true (by omega)⟩, rfl⟩
      · have hd : decide (0 < x) = false := decide_eq_false hp
        have HS2 := Lib.hid (HS.out (by omega))
        clear HW HS hp
        go_wp2_with (go_at_call 113; refine (pos_any _ _).mono ?_; rintro e w' ⟨rfl, rfl⟩)
        go_round
        case rel => exact ⟨k + 1, by omega, by go_num, HS2⟩
        case measure => simp [intOf]; omega
    · obtain rfl : k = zs.length := by omega
      have HN := Lib.hid (Ck.wanted_not (fun j hj => by have := hn.out j hj; omega))
      clear h hn
      go_wp2_with fail
      go_ret
      exact ⟨⟨_, rfl, by rw [HN.out]; rfl⟩, rfl⟩

theorem contains_any (A : Option Addr) (zs : List Int) (cap : Nat) (w : World) (hl : zs.length ≤ maxLen) (h : IsI w A zs) :
    Calls Try.prog 112 #[.slice A zs.length cap, .func (.func 113) #[] #[]] w fun e w' => e = .returned (.bool (Ck.wanted zs)) ∧ w = w' := by
  have ci := Lib.hid (fun w h => index_any A zs cap w hl h)
  go_enter Try.func112, Try.ntmps112
  go_wp2_with fail
  refine (ci.out _ h).mono ?_
  rintro e w' ⟨⟨r, rfl, hr⟩, rfl⟩
  have HR := Lib.hid hr
  clear hr h ci
  go_wp2
  go_ret
  exact ⟨by rw [← HR.out]; rfl, rfl⟩

theorem wanted_any (A : Option Addr) (zs : List Int) (cap : Nat) (w : World) (hl : zs.length ≤ maxLen) (h : IsI w A zs) :
    Calls Try.prog 91 #[.slice A zs.length cap] w fun e w' => e = .returned (.bool (Ck.wanted zs)) ∧ w = w' := by
  have ci := Lib.hid (fun w h => contains_any A zs cap w hl h)
  go_enter Try.func91, Try.ntmps91
  go_wp2_with fail
  refine (ci.out _ h).mono ?_
  rintro e w' ⟨rfl, rfl⟩
  clear h ci
  go_wp2
  go_ret
  exact ⟨rfl, rfl⟩
end Go.Proofs.Ytaaamcleilpnhaa
