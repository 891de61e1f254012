/- Package assign: sets of items as numbers. -/
import Derived.Test.YtpiolhjiflohgaaAsc
namespace Go.Proofs.Ytpiolhjiflohgaa
open Go.RowKit
namespace As
/-- A set without an item. -/
def wo (s j : Nat) : Nat := if s.testBit j then s - 2 ^ j else s
/-- The items of a set, of n items. -/
def its (n s : Nat) : List Nat := (List.range n).filter (fun j => s.testBit j)
end As
theorem wo_bits : ∀ s : Nat, s < 64 → ∀ j : Nat, j < 6 → bits BinOp.andNot IntKind.i64 (s : Int) (wrap64 (2 ^ j)) = (As.wo s j : Int) := by decide +kernel
set_option maxHeartbeats 2000000 in
theorem without_any (s j : Nat) (w : World) (hs : s < 64) (hj : j < 6) :
    Calls Try.prog 75 #[.int .i64 s, .int .i64 j] w fun e w' => e = .returned (.int .i64 (As.wo s j : Int)) ∧ Below w.heap.size w w' := by
  rw [← wo_bits s hs j hj]
  go_enter Try.func75, Try.ntmps75
  go_wp2_with fail
  go_ret
  exact ⟨rfl, Below.refl _ _⟩
set_option maxHeartbeats 2000000 in
theorem ones64_any (s : Nat) (w : World) (hs : s < 64) :
    Calls Try.prog 90 #[.int .u64 s] w fun e w' => e = .returned (.int .i64 ((As.its 6 s).length : Int)) ∧ Below w.heap.size w w' := by
  go_enter Try.func90, Try.ntmps90
  go_wp2_with fail
  go_ret
  refine ⟨congrArg (fun z => Ending.returned (.int .i64 z)) ?_, Below.refl _ _⟩
  revert s
  decide +kernel
set_option maxHeartbeats 2000000 in
theorem ones_any (s : Nat) (w : World) (hs : s < 64) :
    Calls Try.prog 84 #[.int .u64 s] w fun e w' => e = .returned (.int .i64 ((As.its 6 s).length : Int)) ∧ Below w.heap.size w w' := by
  have C := Lib.hid (fun v => ones64_any s v hs)
  generalize ((As.its 6 s).length : Int) = z at *
  go_enter Try.func84, Try.ntmps84
  go_wp2_with fail
  refine (C.out _).mono ?_
  rintro e w1 ⟨rfl, hb1⟩
  go_wp2_with fail
  go_ret
  exact ⟨rfl, hb1⟩
end Go.Proofs.Ytpiolhjiflohgaa
