/- The reference's set operations of pieces, and its comparison. -/
import Derived.Test.YtnnpmegknlgkoaaPset
import Derived.Test.YtnnpmegknlgkoaaPrjoin0
import Derived.Test.YtnnpmegknlgkoaaPrjoin1
import Derived.Test.YtnnpmegknlgkoaaPrjoin2
namespace Go.Proofs.Ytnnpmegknlgkoaa
open Go.RowKit
set_option linter.unusedSimpArgs false in
set_option maxHeartbeats 4000000 in
set_option maxRecDepth 100000 in
theorem rpSame_any (A B : Option Addr) (ca cb : Nat) (xs : List Raw) (w : World) (ha : IsS w A xs) (hb : IsS w B xs) :
    Calls Try.prog 53 #[.slice A xs.length ca, .slice B xs.length cb] w fun e w' => e = .returned (.bool true) ∧ Below w.heap.size w w' := by
  have cells : ∀ (A : Option Addr), IsS w A xs → ∃ b off, (0 < xs.length → A = some ⟨b, off, none⟩) ∧ ∀ i, i < xs.length → w.cell? ⟨b, off + i * 4, none⟩ = some (.int .i64 (Pc.at_ xs i).a) ∧ w.cell? ⟨b, off + i * 4 + 1, none⟩ = some (.int .i64 (Pc.at_ xs i).b) ∧ w.cell? ⟨b, off + i * 4 + 2, none⟩ = some (.int .i64 (Pc.at_ xs i).c) ∧ w.cell? ⟨b, off + i * 4 + 3, none⟩ = some (.int .i64 (Pc.at_ xs i).d) := by
    intro A h
    by_cases h0 : 0 < xs.length
    · obtain ⟨b, off, e, k⟩ := h.1 h0
      exact ⟨b, off, fun _ => e, k⟩
    · exact ⟨0, 0, fun k => absurd k h0, fun i hi => absurd hi (by omega)⟩
  obtain ⟨b1, o1, hA, hc⟩ := cells A ha
  obtain ⟨b2, o2, hB, hd⟩ := cells B hb
  have HC := Lib.hid hc
  have HD := Lib.hid hd
  have HA := Lib.hid hA
  have HB := Lib.hid hB
  have hml := ha.2.2
  clear hc hd hA hB cells ha hb
  have hm2 : (xs.length : Int) ≤ 9223372036854775807 := by unfold maxLen at hml; omega
  go_enter Try.func53, Try.ntmps53
  go_wp2_with fail
  go_loopw [5] (fun i W => ∃ k : Nat, k ≤ xs.length ∧ i = .int .i64 k ∧ Below w.heap.size w W) (fun i _ => xs.length - (intOf i).toNat)
  case atStart => exact ⟨0, Nat.zero_le _, rfl, Below.refl _ _⟩
  case round =>
    obtain ⟨k, hk, rfl, hbb⟩ := hrel
    by_cases hlt : k < xs.length
    · have hA' := HA.out (by omega)
      subst hA'
      have hB' := HB.out (by omega)
      subst hB'
      obtain ⟨s, hs⟩ : ∃ s, Pc.at_ xs k = s := ⟨_, rfl⟩
      obtain ⟨c0, c1, c2, c3⟩ := HC.out k hlt
      obtain ⟨d0, d1, d2, d3⟩ := HD.out k hlt
      rw [hs] at c0 c1 c2 c3 d0 d1 d2 d3
      replace c0 := keepC hbb c0
      replace c1 := keepC hbb c1
      replace c2 := keepC hbb c2
      replace c3 := keepC hbb c3
      replace d0 := keepC hbb d0
      replace d1 := keepC hbb d1
      replace d2 := keepC hbb d2
      replace d3 := keepC hbb d3
      have i1 : (0 : Int) ≤ (k : Int) := by omega
      have i2 : (k : Int) < (xs.length : Int) := by omega
      clear hs
      go_upto_region 6 with fail
      refine at_worldQ (fun v => Below w.heap.size w v ∧ v.cell? ⟨b1, o1 + k * 4, none⟩ = some (.int .i64 s.a) ∧ v.cell? ⟨b1, o1 + k * 4 + 1, none⟩ = some (.int .i64 s.b) ∧ v.cell? ⟨b1, o1 + k * 4 + 2, none⟩ = some (.int .i64 s.c) ∧ v.cell? ⟨b1, o1 + k * 4 + 3, none⟩ = some (.int .i64 s.d) ∧ v.cell? ⟨b2, o2 + k * 4, none⟩ = some (.int .i64 s.a) ∧ v.cell? ⟨b2, o2 + k * 4 + 1, none⟩ = some (.int .i64 s.b) ∧ v.cell? ⟨b2, o2 + k * 4 + 2, none⟩ = some (.int .i64 s.c) ∧ v.cell? ⟨b2, o2 + k * 4 + 3, none⟩ = some (.int .i64 s.d)) ⟨hbb, c0, c1, c2, c3, d0, d1, d2, d3⟩ (fun V hS => ?_)
      clear hbb c0 c1 c2 c3 d0 d1 d2 d3
      obtain ⟨hbb, c0, c1, c2, c3, d0, d1, d2, d3⟩ := hS
      refine wp_region_noPanic ?_
      refine wp_region_held_drew (S := (Below V.heap.size V)) (by kernel_rfl) ((Below.refl _ _).drew) (fun hHeld => ?_)
      refine at_anyH (Below V.heap.size V) hHeld (fun wq0 hNew => ?_)
      clear hHeld
      have hHeld := hNew
      clear hNew
      refine wpAnyH_take (i := 0) (oi := _) (v := ?vq1) rfl (by kernel_rfl) (by kernel_rfl) (by kernel_rfl) (fun _ _ _ h => h) (Or.inl ⟨by kernel_rfl, ?hyq1⟩) hHeld ?restq1
      case hyq1 => (intro w hSw; go_simp; first | done | (with_reducible rfl))
      try simp only [Act.put, List.getElem_toArray, List.getElem_cons_succ, List.getElem_cons_zero, List.setIfInBounds_toArray, List.set_cons_zero, List.set_cons_succ]
      refine wpAnyH_take (i := 1) (oi := _) (v := ?vq2) rfl (by kernel_rfl) (by kernel_rfl) (by kernel_rfl) (fun _ _ _ h => h) (Or.inl ⟨by kernel_rfl, ?hyq2⟩) hHeld ?restq2
      case hyq2 => (intro w hSw; go_simp; first | done | (with_reducible rfl))
      try simp only [Act.put, List.getElem_toArray, List.getElem_cons_succ, List.getElem_cons_zero, List.setIfInBounds_toArray, List.set_cons_zero, List.set_cons_succ]
      refine wpAnyH_take (i := 2) (oi := _) (v := ?vq3) rfl (by kernel_rfl) (by kernel_rfl) (by kernel_rfl) (fun _ _ _ h => h) (Or.inl ⟨by kernel_rfl, ?hyq3⟩) hHeld ?restq3
      case hyq3 => (intro w hSw; go_simp; first | done | (with_reducible rfl))
      try simp only [Act.put, List.getElem_toArray, List.getElem_cons_succ, List.getElem_cons_zero, List.setIfInBounds_toArray, List.set_cons_zero, List.set_cons_succ]
      refine wpAnyH_take (i := 3) (oi := _) (v := ?vq4) rfl (by kernel_rfl) (by kernel_rfl) (by kernel_rfl) (fun _ _ _ h => h) (Or.inl ⟨by kernel_rfl, ?hyq4⟩) hHeld ?restq4
      case hyq4 => (intro w hSw; have kc0 := keepC hSw c0; have kc1 := keepC hSw c1; have kc2 := keepC hSw c2; have kc3 := keepC hSw c3; have kd0 := keepC hSw d0; have kd1 := keepC hSw d1; have kd2 := keepC hSw d2; have kd3 := keepC hSw d3; go_simp; first | done | (with_reducible rfl))
      try simp only [Act.put, List.getElem_toArray, List.getElem_cons_succ, List.getElem_cons_zero, List.setIfInBounds_toArray, List.set_cons_zero, List.set_cons_succ]
      refine wpAnyH_take (i := 4) (oi := _) (v := ?vq5) rfl (by kernel_rfl) (by kernel_rfl) (by kernel_rfl) (fun _ _ _ h => h) (Or.inl ⟨by kernel_rfl, ?hyq5⟩) hHeld ?restq5
      case hyq5 => (intro w hSw; go_simp; first | done | (with_reducible rfl))
      try simp only [Act.put, List.getElem_toArray, List.getElem_cons_succ, List.getElem_cons_zero, List.setIfInBounds_toArray, List.set_cons_zero, List.set_cons_succ]
      refine wpAnyH_take (i := 5) (oi := _) (v := ?vq6) rfl (by kernel_rfl) (by kernel_rfl) (by kernel_rfl) (fun _ _ _ h => h) (Or.inl ⟨by kernel_rfl, ?hyq6⟩) hHeld ?restq6
      case hyq6 => (intro w hSw; go_simp; first | done | (with_reducible rfl))
      try simp only [Act.put, List.getElem_toArray, List.getElem_cons_succ, List.getElem_cons_zero, List.setIfInBounds_toArray, List.set_cons_zero, List.set_cons_succ]
      refine wpAnyH_take (i := 6) (oi := _) (v := ?vq7) rfl (by kernel_rfl) (by kernel_rfl) (by kernel_rfl) (fun _ _ _ h => h) (Or.inl ⟨by kernel_rfl, ?hyq7⟩) hHeld ?restq7
      case hyq7 => (intro w hSw; go_simp; first | done | (with_reducible rfl))
      try simp only [Act.put, List.getElem_toArray, List.getElem_cons_succ, List.getElem_cons_zero, List.setIfInBounds_toArray, List.set_cons_zero, List.set_cons_succ]
      refine wpAnyH_take (i := 7) (oi := _) (v := ?vq8) rfl (by kernel_rfl) (by kernel_rfl) (by kernel_rfl) (fun _ _ _ h => h) (Or.inl ⟨by kernel_rfl, ?hyq8⟩) hHeld ?restq8
      case hyq8 => (intro w hSw; have kc0 := keepC hSw c0; have kc1 := keepC hSw c1; have kc2 := keepC hSw c2; have kc3 := keepC hSw c3; have kd0 := keepC hSw d0; have kd1 := keepC hSw d1; have kd2 := keepC hSw d2; have kd3 := keepC hSw d3; go_simp; first | done | (with_reducible rfl))
      try simp only [Act.put, List.getElem_toArray, List.getElem_cons_succ, List.getElem_cons_zero, List.setIfInBounds_toArray, List.set_cons_zero, List.set_cons_succ]
      refine wpAnyH_take (i := 8) (oi := _) (v := ?vq9) rfl (by kernel_rfl) (by kernel_rfl) (by kernel_rfl) (fun _ _ _ h => h) (Or.inl ⟨by kernel_rfl, ?hyq9⟩) hHeld ?restq9
      case hyq9 => (intro w hSw; go_simp; first | done | (with_reducible rfl))
      try simp only [Act.put, List.getElem_toArray, List.getElem_cons_succ, List.getElem_cons_zero, List.setIfInBounds_toArray, List.set_cons_zero, List.set_cons_succ]
      refine wpAnyH_done (by kernel_rfl) ?_ _
      refine NoPanic.normal ?_
      replace hbb := keepB hbb hHeld
      go_wp2_with fail
      go_roundw
      case rel => exact ⟨k + 1, by omega, by go_num, hbb⟩
      case measure => simp [intOf]; omega
    · obtain rfl : k = xs.length := by omega
      clear HA HB HC HD
      go_wp2_with fail
      go_ret
      exact ⟨rfl, hbb⟩
def Pc.greatB (n : Nat) : Bool := (decide (20 < (n : Int)) && decide ((n : Int) ≤ 60)) || decide (70 < (n : Int))
end Go.Proofs.Ytnnpmegknlgkoaa
