/- The reference of layer 16: Worth, All. -/
import Derived.Test.YtfpaefnaidppmaaGeb
namespace Go.Proofs.Ytfpaefnaidppmaa
open Go.RowKit
namespace As
/-- What a bundle is worth, good by good. -/
def bwp (V : List (List Int)) (a : List Int) (i : Nat) (k : Int) (m : Nat) : Int := sm (fun g => if el a g = k then vl V i g else 0) (List.range m)
theorem bwp_zero (V : List (List Int)) (a : List Int) (i : Nat) (k : Int) : bwp V a i k 0 = 0 := rfl
theorem bwp_succ (V : List (List Int)) (a : List Int) (i : Nat) (k : Int) (m : Nat) : bwp V a i k (m + 1) = bwp V a i k m + if el a m = k then vl V i m else 0 := sm_succ _ _
theorem bwp_end (V : List (List Int)) (a : List Int) (i k : Nat) : bwp V a i (k : Int) a.length = bw V a i k := rfl
theorem bwp_bd {V : List (List Int)} (ok : Gok V) (a : List Int) (i : Nat) (k : Int) (m : Nat) : 0 ≤ bwp V a i k m ∧ bwp V a i k m ≤ m * 1000 :=
  gsm_bd (f := fun g => if el a g = k then vl V i g else 0) (M := 1000) (n := m) (fun j _ => by
    have h := ok.bd i j
    by_cases e : el a j = k
    · rw [if_pos e]; exact h
    · rw [if_neg e]; omega) m (Nat.le_refl m)
/-- What goods are worth, good by good. -/
def glp (V : List (List Int)) (i m : Nat) : Int := sm (vl V i) (List.range m)
theorem glp_succ (V : List (List Int)) (i m : Nat) : glp V i (m + 1) = glp V i m + vl V i m := sm_succ _ _
theorem glp_bd {V : List (List Int)} (ok : Gok V) (i m : Nat) : 0 ≤ glp V i m ∧ glp V i m ≤ m * 1000 := gsm_bd (f := vl V i) (M := 1000) (n := m) (fun j _ => ok.bd i j) m (Nat.le_refl m)
end As
/-- The row i of goods, as a cell and cells. -/
theorem grow_at {w : World} {A B : Option Addr} {V : List (List Int)} {a : List Int} (h : Gd w A B V a) {i : Nat} (hi : i < V.length) :
    ∃ b off R c, A = some ⟨b, off, none⟩ ∧ w.cell? ⟨b, off + i, none⟩ = some (.slice R (As.gm V) c) ∧ (0 < As.gm V → ∃ rb ro, R = some ⟨rb, ro, none⟩ ∧ ∀ j, j < As.gm V → w.cell? ⟨rb, ro + j, none⟩ = some (.int .i64 (As.vl V i j))) := by
  obtain ⟨b, off, e, hrows⟩ := h.hM (by omega)
  obtain ⟨R, c, hc, _, hI⟩ := hrows i hi
  rw [h.ok.row i hi] at hc
  refine ⟨b, off, R, c, e, hc, fun h0 => ?_⟩
  obtain ⟨rb, ro, e2, hcs⟩ := hI.1 (by rw [h.ok.row i hi]; exact h0)
  exact ⟨rb, ro, e2, fun j hj => hcs j (by rw [h.ok.row i hi]; exact hj)⟩
set_option maxRecDepth 100000 in
set_option maxHeartbeats 4000000 in
theorem rgWorth_any (A : Option Addr) (cv : Nat) (V : List (List Int)) (B : Option Addr) (ca : Nat) (a : List Int) (i k : Nat) (w : World) (hG : Gd w A B V a) (hi : i < V.length) :
    Calls Try.prog 36 #[.agg #[.slice A V.length cv], .slice B a.length ca, .int .i64 i, .int .i64 k] w fun e w' => e = .returned (.int .i64 (As.bw V a i k)) ∧ Below w.heap.size w w' := by
  rw [← As.bwp_end]
  have hm := hG.al.len
  have m10 := hG.ok.m10
  have n6 := hG.ok.n6
  have HA := Lib.hid hG.hB
  have HBD := Lib.hid (As.bwp_bd hG.ok a i (k : Int))
  have HVB := Lib.hid (hG.ok.bd i)
  obtain ⟨b, off, R, c, rfl, hc, hcs⟩ := grow_at hG hi
  have HR := Lib.hid hcs
  have HC := Lib.hid hc
  have i1 : (i : Int) < (V.length : Int) := by omega
  rw [hm]
  generalize As.gm V = m at *
  have HM := Lib.hid hm
  clear hc hcs hG hm
  go_enter Try.func36, Try.ntmps36
  go_upto_region 1 with fail
  refine at_box1 (fun V0 hbb b0 hsz => ?_)
  clear hsz
  have c0 := b0.c 0 rfl
  have x0 := keepC hbb HC.out
  have HBB := Lib.hid hbb
  clear hbb b0
  go_wp2_with fail
  go_loop [9, 10] (fun s g => ∃ j : Nat, j ≤ m ∧ g = .int .i64 j ∧ s = .int .i64 (As.bwp V a i k j)) (fun _ g => m - (intOf g).toNat)
  case atStart => exact ⟨0, Nat.zero_le _, rfl, rfl⟩
  case round =>
    obtain ⟨j, hj, rfl, rfl⟩ := hrel
    by_cases hlt : j < m
    · obtain ⟨ab, ao, rfl, hac⟩ := HA.out.1 (by rw [HM.out]; omega)
      obtain ⟨rb, ro, rfl, hrc⟩ := HR.out (by omega)
      have x1 := keepC HBB.out (hac j (by rw [HM.out]; exact hlt))
      have x2 := keepC HBB.out (hrc j hlt)
      have ⟨b1, b2⟩ := HBD.out j
      have ⟨v1, v2⟩ := HVB.out j
      have HS := Lib.hid (As.bwp_succ V a i k j)
      have i2 : (j : Int) < (m : Int) := by omega
      have b3 : As.bwp V a i k j ≤ 10000 := by omega
      clear hac hrc b2
      by_cases hh : As.el a j = (k : Int)
      · have d1 : (As.el a j == (k : Int)) = true := by simpa using hh
        rw [if_pos hh] at HS
        clear hh
        generalize As.el a j = y at *
        generalize As.vl V i j = z at *
        generalize As.bwp V a i k j = s at *
        go_wp2_with fail
        go_round
        case rel => exact ⟨j + 1, by omega, by go_num, by rw [HS.out]⟩
        case measure => simp [intOf]; omega
      · have d1 : (As.el a j == (k : Int)) = false := by simpa using hh
        rw [if_neg hh, Int.add_zero] at HS
        clear hh
        generalize As.el a j = y at *
        generalize As.vl V i j = z at *
        generalize As.bwp V a i k j = s at *
        go_wp2_with fail
        go_round
        case rel => exact ⟨j + 1, by omega, by go_num, by rw [HS.out]⟩
        case measure => simp [intOf]; omega
    · obtain rfl : j = m := by omega
      go_wp2_with fail
      go_ret
      exact ⟨rfl, HBB.out⟩
set_option maxRecDepth 100000 in
set_option maxHeartbeats 4000000 in
theorem rgAll_any (A : Option Addr) (cv : Nat) (V : List (List Int)) (B : Option Addr) (a : List Int) (i : Nat) (w : World) (hG : Gd w A B V a) (hi : i < V.length) :
    Calls Try.prog 32 #[.agg #[.slice A V.length cv], .int .i64 i] w fun e w' => e = .returned (.int .i64 (As.gall V (As.gm V) i)) ∧ Below w.heap.size w w' := by
  have m10 := hG.ok.m10
  have n6 := hG.ok.n6
  have HBD := Lib.hid (As.glp_bd hG.ok i)
  have HVB := Lib.hid (hG.ok.bd i)
  obtain ⟨b, off, R, c, rfl, hc, hcs⟩ := grow_at hG hi
  have HR := Lib.hid hcs
  have HC := Lib.hid hc
  have i1 : (i : Int) < (V.length : Int) := by omega
  rw [show As.gall V (As.gm V) i = As.glp V i (As.gm V) from rfl]
  generalize As.gm V = m at *
  clear hc hcs hG
  go_enter Try.func32, Try.ntmps32
  go_upto_region 1 with fail
  refine at_box1 (fun V0 hbb b0 hsz => ?_)
  clear hsz
  have c0 := b0.c 0 rfl
  have x0 := keepC hbb HC.out
  have HBB := Lib.hid hbb
  clear hbb b0
  go_wp2_with fail
  go_loop [5, 6] (fun s g => ∃ j : Nat, j ≤ m ∧ g = .int .i64 j ∧ s = .int .i64 (As.glp V i j)) (fun _ g => m - (intOf g).toNat)
  case atStart => exact ⟨0, Nat.zero_le _, rfl, rfl⟩
  case round =>
    obtain ⟨j, hj, rfl, rfl⟩ := hrel
    by_cases hlt : j < m
    · obtain ⟨rb, ro, rfl, hrc⟩ := HR.out (by omega)
      have x2 := keepC HBB.out (hrc j hlt)
      have ⟨b1, b2⟩ := HBD.out j
      have ⟨v1, v2⟩ := HVB.out j
      have HS := Lib.hid (As.glp_succ V i j)
      have i2 : (j : Int) < (m : Int) := by omega
      have b3 : As.glp V i j ≤ 10000 := by omega
      clear hrc b2
      generalize As.vl V i j = z at *
      generalize As.glp V i j = s at *
      go_wp2_with fail
      go_round
      case rel => exact ⟨j + 1, by omega, by go_num, by rw [HS.out]⟩
      case measure => simp [intOf]; omega
    · obtain rfl : j = m := by omega
      go_wp2_with fail
      go_ret
      exact ⟨rfl, HBB.out⟩
end Go.Proofs.Ytfpaefnaidppmaa
