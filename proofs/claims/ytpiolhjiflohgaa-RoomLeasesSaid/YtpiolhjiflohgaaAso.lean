/- Layer 13's law: Same of equal lists, fit, given, equal. -/
import Derived.Test.YtpiolhjiflohgaaAsr
namespace Go.Proofs.Ytpiolhjiflohgaa
open Go.RowKit
set_option maxRecDepth 100000 in
set_option maxHeartbeats 2000000 in
theorem same_eq (A : Option Addr) (ca : Nat) (B : Option Addr) (cb : Nat) (xs : List Int) (w : World) (hl : xs.length ≤ maxLen) (hA : IsI w A xs) (hB : IsI w B xs) :
    Calls Try.prog 27 #[.slice A xs.length ca, .slice B xs.length cb] w fun e w' => e = .returned (.bool true) ∧ Below w.heap.size w w' := by
  unfold maxLen at hl
  have HA := Lib.hid hA
  have HB := Lib.hid hB
  clear hA hB
  have e0 : ((xs.length : Int) != xs.length) = false := by simp
  go_enter Try.func27, Try.ntmps27
  go_wp2_with fail
  go_loopw [5] (fun i W => ∃ k : Nat, k ≤ xs.length ∧ i = .int .i64 k ∧ Below w.heap.size w W) (fun i _ => xs.length - (intOf i).toNat)
  case atStart => exact ⟨0, Nat.zero_le _, rfl, Below.refl _ _⟩
  case round =>
    obtain ⟨k, hk, rfl, hbb⟩ := hrel
    by_cases hlt : k < xs.length
    · obtain ⟨b1, o1, rfl, h1⟩ := HA.out.1 (by omega)
      obtain ⟨b2, o2, rfl, h2⟩ := HB.out.1 (by omega)
      have c1 := keepC hbb (h1 k hlt)
      have c2 := keepC hbb (h2 k hlt)
      clear h1 h2
      generalize As.el xs k = x at *
      have d1 : (x != x) = false := by simp
      have i1 : (k : Int) < (xs.length : Int) := by omega
      go_wp2_with fail
      go_quiet (fail)
      go_wp2_with fail
      go_roundw
      case rel => exact ⟨k + 1, by omega, by go_num, below_drewN hbb _⟩
      case measure => simp [intOf]; omega
    · obtain rfl : k = xs.length := by omega
      go_wp2_with fail
      go_ret
      exact ⟨rfl, hbb⟩
namespace As
/-- Are bids valid? -/
def ftB (V : List (List Int)) : Bool := decide (chk V = 0)
end As
/-- A literal of two lists of two numbers. -/
theorem isM_lit2 {w : World} (a b c d : Int) {p q r : Nat} (ha : I64 a) (hb : I64 b) (hc : I64 c) (hd : I64 d) (c0 : w.cell? ⟨r, 0, none⟩ = some (.slice (some ⟨p, 0, none⟩) 2 2)) (c1 : w.cell? ⟨r, 1, none⟩ = some (.slice (some ⟨q, 0, none⟩) 2 2))
    (x0 : w.cell? ⟨p, 0, none⟩ = some (.int .i64 a)) (x1 : w.cell? ⟨p, 1, none⟩ = some (.int .i64 b)) (y0 : w.cell? ⟨q, 0, none⟩ = some (.int .i64 c)) (y1 : w.cell? ⟨q, 1, none⟩ = some (.int .i64 d)) : IsM w (some ⟨r, 0, none⟩) [[a, b], [c, d]] := by
  have two : ∀ (a b : Int) (p : Nat), I64 a → I64 b → w.cell? ⟨p, 0, none⟩ = some (.int .i64 a) → w.cell? ⟨p, 1, none⟩ = some (.int .i64 b) → IsI w (some ⟨p, 0, none⟩) [a, b] := fun a b p ha hb x0 x1 => by
    refine ⟨fun _ => ⟨p, 0, rfl, fun i hi => ?_⟩, fun z hz => ?_⟩
    · match i, hi with
      | 0, _ => exact x0
      | 1, _ => exact x1
    · rcases List.mem_cons.1 hz with rfl | hz
      · exact ha
      · rcases List.mem_cons.1 hz with rfl | hz
        · exact hb
        · cases hz
  refine fun _ => ⟨r, 0, rfl, fun i hi => ?_⟩
  match i, hi with
  | 0, _ => exact ⟨_, _, c0, by unfold maxLen; simp, two a b p ha hb x0 x1⟩
  | 1, _ => exact ⟨_, _, c1, by unfold maxLen; simp, two c d q hc hd y0 y1⟩
theorem isI_lit2 {w : World} (a b : Int) {p : Nat} (ha : I64 a) (hb : I64 b) (x0 : w.cell? ⟨p, 0, none⟩ = some (.int .i64 a)) (x1 : w.cell? ⟨p, 1, none⟩ = some (.int .i64 b)) : IsI w (some ⟨p, 0, none⟩) [a, b] := by
  refine ⟨fun _ => ⟨p, 0, rfl, fun i hi => ?_⟩, fun z hz => ?_⟩
  · match i, hi with
    | 0, _ => exact x0
    | 1, _ => exact x1
  · rcases List.mem_cons.1 hz with rfl | hz
    · exact ha
    · rcases List.mem_cons.1 hz with rfl | hz
      · exact hb
      · cases hz
/-- What given and equal give. -/
def LitQ (V : List (List Int)) (w : World) (e : Ending) (w' : World) : Prop := ∃ g, e = .returned (.slice (some ⟨g, 0, none⟩) 2 2) ∧ IsM w' (some ⟨g, 0, none⟩) V ∧ Below w.heap.size w w'
end Go.Proofs.Ytpiolhjiflohgaa
