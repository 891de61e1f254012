/- Points of a cake: package cake's whole, less and isPoint; the reference's Of and Point. -/
import Derived.Test.YtniagnldiegamaaGreatCheck
import Derived.Test.YtniagnldiegamaaGreatGa
import Derived.Test.YtniagnldiegamaaGreatGf
import Derived.Deep.RegionHeld3
namespace Go.Proofs.YtniagnldiegamaaGreat
open Go.RowKit
namespace Rp
theorem q_lt {n d m c : Int} (h : Ok n d) (k : Ok m c) : (q n d < q m c) ↔ n * c < m * d := by rw [Rat.lt_iff, q_num h, q_num k, q_denI h, q_denI k]
theorem cmpQ_neg (x y : Rat) : decide (cmpQ x y < 0) = decide (x < y) := by
  unfold cmpQ
  by_cases h : x < y
  · rw [if_pos h]; simp [h]
  · rw [if_neg h]
    split <;> simp [h]
end Rp
/-- Whether a fraction is a point of a cake of a length. -/
def Ck.pt (len n d : Int) : Bool := decide (Rp.Ok n d ∧ 0 ≤ n ∧ n ≤ len * d)
theorem Ck.pt_of {len n d : Int} (l0 : -1000000000000000000 ≤ len) (l1 : len ≤ 1000000000000000000) (h : Rp.Ok n d) (hn : 0 ≤ n) : Ck.pt len n d = !(decide (Rp.q len 1 < Rp.q n d)) := by
  unfold Ck.pt
  rw [← decide_not, decide_eq_decide, Rp.q_lt (Rp.Ok_one l0 l1) h, Int.mul_one]
  constructor
  · rintro ⟨_, _, h3⟩; omega
  · intro h3; exact ⟨h, hn, by omega⟩

theorem ckwhole_any (n : Int) (w : World) : Calls Tryz.prog 172 #[.int .i64 n] w fun e w' => e = .returned (.agg #[.int .i64 n, .int .i64 1]) ∧ Below w.heap.size w w' := by
  go_enter Tryz.func172, Tryz.ntmps172
  go_wp2
  exact bodyPost_ret (v := .agg #[.int .i64 n, .int .i64 1]) (by simp [results, Tryz.results172, go_sem]) rfl ⟨rfl, (Below.refl _ _).alloc (Nat.le_refl _) _⟩

theorem rOf_any (n : Int) (w : World) : Calls Tryz.prog 38 #[.int .i64 n] w fun e w' => e = .returned (.agg #[.int .i64 n, .int .i64 1]) ∧ Below w.heap.size w w' := by
  go_enter Tryz.func38, Tryz.ntmps38
  go_wp2
  exact bodyPost_ret (v := .agg #[.int .i64 n, .int .i64 1]) (by simp [results, Tryz.results38, go_sem]) rfl ⟨rfl, (Below.refl _ _).alloc (Nat.le_refl _) _⟩

theorem ckless_any (n d m c : Int) (h : Rp.Ok n d) (k : Rp.Ok m c) (w : World) :
    Calls Tryz.prog 171 #[.agg #[.int .i64 n, .int .i64 d], .agg #[.int .i64 m, .int .i64 c]] w fun e w' => e = .returned (.bool (decide (Rp.q n d < Rp.q m c))) ∧ Below w.heap.size w w' := by
  have h' := h; have k' := k; obtain ⟨h1, h2, h3, h4, _⟩ := h'; obtain ⟨k1, k2, k3, k4, _⟩ := k'
  have cc := fun w => Cmp_any n d m c w (by omega) (by omega) (by omega) (by omega) (by omega) (by omega) (by omega) (by omega)
  rw [Rp.cmpS_ok h k] at cc; have HD := Lib.hid (Rp.cmpQ_neg (Rp.q n d) (Rp.q m c))
  generalize Rp.cmpQ (Rp.q n d) (Rp.q m c) = R at *
  have CC := Lib.hid cc; clear cc h k; have e0 : (((0 : Int)) == 0) = true := rfl
  go_enter Tryz.func171, Tryz.ntmps171
  (go_wp2_with fail); refine (CC.out _).mono ?_; rintro e w1 ⟨rfl, hb1⟩; have hbb : Below w.heap.size w w1 := keepB (((Below.refl _ _).alloc (Nat.le_refl _) _).alloc (by simp) _) hb1; clear hb1 CC
  go_wp2
  go_ret
  exact ⟨by rw [← HD.out]; rfl, hbb⟩

set_option linter.unusedSimpArgs false in
set_option maxHeartbeats 2000000 in
set_option maxRecDepth 100000 in
/-- isPoint, of a cake of a valid length. -/
theorem ispoint_any (len : Int) (K : Option Addr) (kn ck : Nat) (Z : Option Addr) (zn cz : Nat) (n d : Int) (w : World) (l0 : 1 ≤ len) (l1 : len ≤ 1000) (hn : I64 n) (hd : I64 d) :
    Calls Tryz.prog 170 #[.agg #[.int .i64 len, .slice K kn ck, .slice Z zn cz], .agg #[.int .i64 n, .int .i64 d]] w fun e w' => e = .returned (.bool (Ck.pt len n d)) ∧ Below w.heap.size w w' := by
  have cb := fun w => check_any n d w hn.1 hn.2 hd.1 hd.2
  obtain ⟨n0, n1⟩ := hn; obtain ⟨d0, d1⟩ := hd
  rcases chk_cases n d with ⟨h, hx⟩ | ⟨h, hx⟩
  · rw [h] at cb
    have CB := Lib.hid cb; have e0 : (((0 : Int)) == 0) = true := rfl
    by_cases hneg : 0 ≤ n
    · have e1 : decide (0 ≤ n) = true := decide_eq_true hneg
      have cl := fun w => ckless_any len 1 n d (Rp.Ok_one (by omega) (by omega)) hx w
      have hpt : Ck.pt len n d = !(decide (Rp.q len 1 < Rp.q n d)) := Ck.pt_of (by omega) (by omega) hx hneg; rw [hpt]
      generalize decide (Rp.q len 1 < Rp.q n d) = L at *
      have CL := Lib.hid cl; have CW := Lib.hid (fun w => ckwhole_any len w); clear cb cl h hx hpt
      go_enter Tryz.func170, Tryz.ntmps170
      go_upto_region 1 with fail
      refine at_worldQ (fun v => Below w.heap.size w v ∧ v.cell? ⟨w.heap.size, 0, none⟩ = some (.int .i64 len) ∧ v.cell? ⟨w.heap.size, 1, none⟩ = some (.slice K kn ck) ∧ v.cell? ⟨w.heap.size, 2, none⟩ = some (.slice Z zn cz) ∧ v.cell? ⟨w.heap.size + 1, 0, none⟩ = some (.int .i64 n) ∧ v.cell? ⟨w.heap.size + 1, 1, none⟩ = some (.int .i64 d)) ⟨((Below.refl _ _).alloc (Nat.le_refl _) _).alloc (by simp) _, by go_simp, by go_simp, by go_simp, by go_simp, by go_simp⟩ (fun V hS => ?_); obtain ⟨hbb, y0, y1, y2, p0, p1⟩ := hS
      go_region_held3 (fun v => Below w.heap.size w v ∧ v.cell? ⟨w.heap.size, 0, none⟩ = some (.int .i64 len) ∧ v.cell? ⟨w.heap.size, 1, none⟩ = some (.slice K kn ck) ∧ v.cell? ⟨w.heap.size, 2, none⟩ = some (.slice Z zn cz) ∧ v.cell? ⟨w.heap.size + 1, 0, none⟩ = some (.int .i64 n) ∧ v.cell? ⟨w.heap.size + 1, 1, none⟩ = some (.int .i64 d))
        (first | (exact ⟨hbb.drew, y0, y1, y2, p0, p1⟩) | (with_reducible assumption) | (obtain ⟨k0, ky0, ky1, ky2, kp0, kp1⟩ := ‹Below w.heap.size w _ ∧ _›; exact ⟨keepB k0 hb3, keepC hb3 ky0, keepC hb3 ky1, keepC hb3 ky2, keepC hb3 kp0, keepC hb3 kp1⟩))
        (first
          | (go_at_call 137; refine (CB.out _).mono ?_; rintro e w3 ⟨rfl, hb3⟩)
          | (go_at_call 172; refine (CW.out _).mono ?_; rintro e w3 ⟨rfl, hb3⟩)
          | (go_at_call 171; refine (CL.out _).mono ?_; rintro e w3 ⟨rfl, hb3⟩))
      all_goals
        go_wp2
        go_ret
        obtain ⟨k0, ky0, ky1, ky2, kp0, kp1⟩ := ‹Below w.heap.size w _ ∧ _›; exact ⟨rfl, k0⟩
    · have e1 : decide (0 ≤ n) = false := decide_eq_false hneg
      have hpt : Ck.pt len n d = false := decide_eq_false (fun g => hneg g.2.1); rw [hpt]; clear cb h hx hpt
      go_enter Tryz.func170, Tryz.ntmps170
      go_upto_region 1 with fail
      refine at_worldQ (fun v => Below w.heap.size w v ∧ v.cell? ⟨w.heap.size, 0, none⟩ = some (.int .i64 len) ∧ v.cell? ⟨w.heap.size, 1, none⟩ = some (.slice K kn ck) ∧ v.cell? ⟨w.heap.size, 2, none⟩ = some (.slice Z zn cz) ∧ v.cell? ⟨w.heap.size + 1, 0, none⟩ = some (.int .i64 n) ∧ v.cell? ⟨w.heap.size + 1, 1, none⟩ = some (.int .i64 d)) ⟨((Below.refl _ _).alloc (Nat.le_refl _) _).alloc (by simp) _, by go_simp, by go_simp, by go_simp, by go_simp, by go_simp⟩ (fun V hS => ?_); obtain ⟨hbb, y0, y1, y2, p0, p1⟩ := hS; refine wp_region_held_drew (S := (fun v => Below w.heap.size w v ∧ v.cell? ⟨w.heap.size, 0, none⟩ = some (.int .i64 len) ∧ v.cell? ⟨w.heap.size, 1, none⟩ = some (.slice K kn ck) ∧ v.cell? ⟨w.heap.size, 2, none⟩ = some (.slice Z zn cz) ∧ v.cell? ⟨w.heap.size + 1, 0, none⟩ = some (.int .i64 n) ∧ v.cell? ⟨w.heap.size + 1, 1, none⟩ = some (.int .i64 d))) (by kernel_rfl) ?_ (fun hHeld => ?_)
      · exact ⟨hbb.drew, y0, y1, y2, p0, p1⟩
      refine tkna 0 ?va0 rfl ?hya0 ?resta0
      case hya0 => (intro w hSw; (try dsimp only at hSw); go_simp <;> with_reducible rfl)
      (try simp only [PPz]); refine wpAnyH_ready (rs := [1]) (by kernel_rfl) (by simp) ?_; refine AllReadyH.cons (o := _) rfl (fun K hK => ?_) AllReadyH.nil; go_simp; refine (CB.out _).mono ?_; rintro e w3 ⟨rfl, hb3⟩; (go_wp2_with fail); refine hK.out _ _ ?_ (fun hHeld => ?_)
      · obtain ⟨k0, ky0, ky1, ky2, kp0, kp1⟩ := hHeld; exact ⟨keepB k0 hb3, keepC hb3 ky0, keepC hb3 ky1, keepC hb3 ky2, keepC hb3 kp0, keepC hb3 kp1⟩
      clear hK K; (try simp only [PPz]); refine tkna 2 ?va2 rfl ?hya2 ?resta2
      case hya2 => (intro w hSw; (try dsimp only at hSw); go_simp <;> with_reducible rfl)
      (try simp only [PPz]); refine tkna 3 ?va3 rfl ?hya3 ?resta3
      case hya3 => (intro w hSw; (try dsimp only at hSw); go_simp <;> with_reducible rfl)
      (try simp only [PPz]); refine tkna 4 ?va4 rfl ?hya4 ?resta4
      case hya4 => (intro w hSw; (try dsimp only at hSw); go_simp <;> with_reducible rfl)
      (try simp only [PPz]); refine tkna 5 ?va5 rfl ?hya5 ?resta5
      case hya5 => (intro w hSw; (try dsimp only at hSw); go_simp <;> with_reducible rfl)
      (try simp only [PPz]); refine tkna 6 (.bool false) rfl ?hya6 ?resta6
      case hya6 => (intro w hSw; (try dsimp only at hSw); (go_simp; first | done | exact congrArg (fun b => Result.ok (Next.value (Value.bool b)) w) e1 | (rw [e1])))
      (try simp only [PPz]); refine tkna 7 ?va7 rfl ?hya7 ?resta7
      case hya7 => (intro w hSw; (try dsimp only at hSw); go_simp <;> with_reducible rfl)
      (try simp only [PPz]); refine tkna 8 ?va8 rfl ?hya8 ?resta8
      case hya8 => (intro w hSw; (try dsimp only at hSw); go_simp <;> with_reducible rfl)
      (try simp only [PPz]); refine tkns 9 rfl (by assumption) ?resta9; (try simp only [PPz]); refine tkns 10 rfl (by assumption) ?resta10; (try simp only [PPz]); refine tkns 11 rfl (by assumption) ?resta11; (try simp only [PPz]); refine tkns 12 rfl (by assumption) ?resta12; (try simp only [PPz]); refine tkns 13 rfl (by assumption) ?resta13; (try simp only [PPz]); refine tkns 14 rfl (by assumption) ?resta14; (try simp only [PPz]); refine tkna 15 ?va15 rfl ?hya15 ?resta15
      case hya15 => (intro w hSw; (try dsimp only at hSw); go_simp <;> with_reducible rfl)
      (try simp only [PPz]); refine tkna 16 ?va16 rfl ?hya16 ?resta16
      case hya16 => (intro w hSw; (try dsimp only at hSw); go_simp <;> with_reducible rfl)
      (try simp only [PPz]); refine wpAnyH_done (by kernel_rfl) ?_ _
      go_wp2
      go_ret
      obtain ⟨k0, _, _, _, _, _⟩ := hHeld; exact ⟨rfl, k0⟩
  · rw [h] at cb
    have CB := Lib.hid cb; have e0 : (((8 : Int)) == 0) = false := rfl; have hpt : Ck.pt len n d = false := decide_eq_false (fun g => hx g.1); rw [hpt]; clear cb h hx hpt
    go_enter Tryz.func170, Tryz.ntmps170
    go_upto_region 1 with fail
    refine at_worldQ (fun v => Below w.heap.size w v ∧ v.cell? ⟨w.heap.size, 0, none⟩ = some (.int .i64 len) ∧ v.cell? ⟨w.heap.size, 1, none⟩ = some (.slice K kn ck) ∧ v.cell? ⟨w.heap.size, 2, none⟩ = some (.slice Z zn cz) ∧ v.cell? ⟨w.heap.size + 1, 0, none⟩ = some (.int .i64 n) ∧ v.cell? ⟨w.heap.size + 1, 1, none⟩ = some (.int .i64 d)) ⟨((Below.refl _ _).alloc (Nat.le_refl _) _).alloc (by simp) _, by go_simp, by go_simp, by go_simp, by go_simp, by go_simp⟩ (fun V hS => ?_); obtain ⟨hbb, y0, y1, y2, p0, p1⟩ := hS; refine wp_region_held_drew (S := (fun v => Below w.heap.size w v ∧ v.cell? ⟨w.heap.size, 0, none⟩ = some (.int .i64 len) ∧ v.cell? ⟨w.heap.size, 1, none⟩ = some (.slice K kn ck) ∧ v.cell? ⟨w.heap.size, 2, none⟩ = some (.slice Z zn cz) ∧ v.cell? ⟨w.heap.size + 1, 0, none⟩ = some (.int .i64 n) ∧ v.cell? ⟨w.heap.size + 1, 1, none⟩ = some (.int .i64 d))) (by kernel_rfl) ?_ (fun hHeld => ?_)
    · exact ⟨hbb.drew, y0, y1, y2, p0, p1⟩
    refine tkna 0 ?vb0 rfl ?hyb0 ?restb0
    case hyb0 => (intro w hSw; (try dsimp only at hSw); go_simp <;> with_reducible rfl)
    (try simp only [PPz]); refine wpAnyH_ready (rs := [1]) (by kernel_rfl) (by simp) ?_; refine AllReadyH.cons (o := _) rfl (fun K hK => ?_) AllReadyH.nil; go_simp; refine (CB.out _).mono ?_; rintro e w3 ⟨rfl, hb3⟩; (go_wp2_with fail); refine hK.out _ _ ?_ (fun hHeld => ?_)
    · obtain ⟨k0, ky0, ky1, ky2, kp0, kp1⟩ := hHeld; exact ⟨keepB k0 hb3, keepC hb3 ky0, keepC hb3 ky1, keepC hb3 ky2, keepC hb3 kp0, keepC hb3 kp1⟩
    clear hK K; (try simp only [PPz]); refine tkna 2 ?vb2 rfl ?hyb2 ?restb2
    case hyb2 => (intro w hSw; (try dsimp only at hSw); go_simp <;> with_reducible rfl)
    (try simp only [PPz]); refine tkna 3 ?vb3 rfl ?hyb3 ?restb3
    case hyb3 => (intro w hSw; (try dsimp only at hSw); go_simp <;> with_reducible rfl)
    (try simp only [PPz]); refine tkns 4 rfl (by assumption) ?restb4; (try simp only [PPz]); refine tkns 5 rfl (by assumption) ?restb5; (try simp only [PPz]); refine tkns 6 rfl (by assumption) ?restb6; (try simp only [PPz]); refine tkna 7 ?vb7 rfl ?hyb7 ?restb7
    case hyb7 => (intro w hSw; (try dsimp only at hSw); go_simp <;> with_reducible rfl)
    (try simp only [PPz]); refine tkna 8 ?vb8 rfl ?hyb8 ?restb8
    case hyb8 => (intro w hSw; (try dsimp only at hSw); go_simp <;> with_reducible rfl)
    (try simp only [PPz]); refine tkns 9 rfl (by assumption) ?restb9; (try simp only [PPz]); refine tkns 10 rfl (by assumption) ?restb10; (try simp only [PPz]); refine tkns 11 rfl (by assumption) ?restb11; (try simp only [PPz]); refine tkns 12 rfl (by assumption) ?restb12; (try simp only [PPz]); refine tkns 13 rfl (by assumption) ?restb13; (try simp only [PPz]); refine tkns 14 rfl (by assumption) ?restb14; (try simp only [PPz]); refine tkna 15 ?vb15 rfl ?hyb15 ?restb15
    case hyb15 => (intro w hSw; (try dsimp only at hSw); go_simp <;> with_reducible rfl)
    (try simp only [PPz]); refine tkna 16 ?vb16 rfl ?hyb16 ?restb16
    case hyb16 => (intro w hSw; (try dsimp only at hSw); go_simp <;> with_reducible rfl)
    (try simp only [PPz]); refine wpAnyH_done (by kernel_rfl) ?_ _
    go_wp2
    go_ret
    obtain ⟨k0, _, _, _, _, _⟩ := hHeld; exact ⟨rfl, k0⟩

set_option linter.unusedSimpArgs false in
set_option maxHeartbeats 2000000 in
set_option maxRecDepth 100000 in
/-- The reference's Point, likewise. -/
theorem rpoint_any (len n d : Int) (w : World) (l0 : 1 ≤ len) (l1 : len ≤ 1000) (hn : I64 n) (hd : I64 d) :
    Calls Tryz.prog 147 #[.int .i64 len, .agg #[.int .i64 n, .int .i64 d]] w fun e w' => e = .returned (.bool (Ck.pt len n d)) ∧ Below w.heap.size w w' := by
  have cb := fun w => rCheck_any n d w hn.1 hn.2 hd.1 hd.2
  obtain ⟨n0, n1⟩ := hn; obtain ⟨d0, d1⟩ := hd
  rcases chk_cases n d with ⟨h, hx⟩ | ⟨h, hx⟩
  · rw [h] at cb
    have CB := Lib.hid cb; have e0 : (((0 : Int)) == 0) = true := rfl
    by_cases hneg : 0 ≤ n
    · have e1 : decide (0 ≤ n) = true := decide_eq_true hneg
      have cl := fun w => Less_any len 1 n d (Rp.Ok_one (by omega) (by omega)) hx w
      have hpt : Ck.pt len n d = !(decide (Rp.q len 1 < Rp.q n d)) := Ck.pt_of (by omega) (by omega) hx hneg; rw [hpt]
      generalize decide (Rp.q len 1 < Rp.q n d) = L at *
      have CL := Lib.hid cl; have CW := Lib.hid (fun w => rOf_any len w); clear cb cl h hx hpt
      go_enter Tryz.func147, Tryz.ntmps147
      go_upto_region 1 with fail
      refine at_worldQ (fun v => Below w.heap.size w v ∧ v.cell? ⟨w.heap.size, 0, none⟩ = some (.int .i64 n) ∧ v.cell? ⟨w.heap.size, 1, none⟩ = some (.int .i64 d)) ⟨(Below.refl _ _).alloc (Nat.le_refl _) _, n20 _ _ _ _, n21 _ _ _ _⟩ (fun V hS => ?_); obtain ⟨hbb, p0, p1⟩ := hS
      go_region_held3 (fun v => Below w.heap.size w v ∧ v.cell? ⟨w.heap.size, 0, none⟩ = some (.int .i64 n) ∧ v.cell? ⟨w.heap.size, 1, none⟩ = some (.int .i64 d))
        (first | (exact ⟨hbb.drew, p0, p1⟩) | (with_reducible assumption) | (obtain ⟨k0, kp0, kp1⟩ := ‹Below w.heap.size w _ ∧ _›; exact ⟨keepB k0 hb3, keepC hb3 kp0, keepC hb3 kp1⟩))
        (first
          | (go_at_call 150; refine (CB.out _).mono ?_; rintro e w3 ⟨rfl, hb3⟩)
          | (go_at_call 38; refine (CW.out _).mono ?_; rintro e w3 ⟨rfl, hb3⟩)
          | (go_at_call 53; refine (CL.out _).mono ?_; rintro e w3 ⟨rfl, hb3⟩))
      all_goals
        go_wp2
        go_ret
        obtain ⟨k0, kp0, kp1⟩ := ‹Below w.heap.size w _ ∧ _›; exact ⟨rfl, k0⟩
    · have e1 : decide (0 ≤ n) = false := decide_eq_false hneg
      have hpt : Ck.pt len n d = false := decide_eq_false (fun g => hneg g.2.1); rw [hpt]; clear cb h hx hpt
      go_enter Tryz.func147, Tryz.ntmps147
      go_upto_region 1 with fail
      refine at_worldQ (fun v => Below w.heap.size w v ∧ v.cell? ⟨w.heap.size, 0, none⟩ = some (.int .i64 n) ∧ v.cell? ⟨w.heap.size, 1, none⟩ = some (.int .i64 d)) ⟨(Below.refl _ _).alloc (Nat.le_refl _) _, n20 _ _ _ _, n21 _ _ _ _⟩ (fun V hS => ?_); obtain ⟨hbb, p0, p1⟩ := hS; refine wp_region_held_drew (S := (fun v => Below w.heap.size w v ∧ v.cell? ⟨w.heap.size, 0, none⟩ = some (.int .i64 n) ∧ v.cell? ⟨w.heap.size, 1, none⟩ = some (.int .i64 d))) (by kernel_rfl) ?_ (fun hHeld => ?_)
      · exact ⟨hbb.drew, p0, p1⟩
      refine tkna 0 ?va0 rfl ?hya0 ?resta0
      case hya0 => (intro w hSw; (try dsimp only at hSw); go_simp <;> with_reducible rfl)
      (try simp only [PPz]); refine wpAnyH_ready (rs := [1]) (by kernel_rfl) (by simp) ?_; refine AllReadyH.cons (o := _) rfl (fun K hK => ?_) AllReadyH.nil; go_simp; refine (CB.out _).mono ?_; rintro e w3 ⟨rfl, hb3⟩; (go_wp2_with fail); refine hK.out _ _ ?_ (fun hHeld => ?_)
      · obtain ⟨k0, kp0, kp1⟩ := hHeld; exact ⟨keepB k0 hb3, keepC hb3 kp0, keepC hb3 kp1⟩
      clear hK K; (try simp only [PPz]); refine tkna 2 ?va2 rfl ?hya2 ?resta2
      case hya2 => (intro w hSw; (try dsimp only at hSw); go_simp <;> with_reducible rfl)
      (try simp only [PPz]); refine tkna 3 ?va3 rfl ?hya3 ?resta3
      case hya3 => (intro w hSw; (try dsimp only at hSw); go_simp <;> with_reducible rfl)
      (try simp only [PPz]); refine tkna 4 ?va4 rfl ?hya4 ?resta4
      case hya4 => (intro w hSw; (try dsimp only at hSw); go_simp <;> with_reducible rfl)
      (try simp only [PPz]); refine tkna 5 ?va5 rfl ?hya5 ?resta5
      case hya5 => (intro w hSw; (try dsimp only at hSw); go_simp <;> with_reducible rfl)
      (try simp only [PPz]); refine tkna 6 (.bool false) rfl ?hya6 ?resta6
      case hya6 => (intro w hSw; (try dsimp only at hSw); (go_simp; first | done | exact congrArg (fun b => Result.ok (Next.value (Value.bool b)) w) e1 | (rw [e1])))
      (try simp only [PPz]); refine tkna 7 ?va7 rfl ?hya7 ?resta7
      case hya7 => (intro w hSw; (try dsimp only at hSw); go_simp <;> with_reducible rfl)
      (try simp only [PPz]); refine tkna 8 ?va8 rfl ?hya8 ?resta8
      case hya8 => (intro w hSw; (try dsimp only at hSw); go_simp <;> with_reducible rfl)
      (try simp only [PPz]); refine tkns 9 rfl (by assumption) ?resta9; (try simp only [PPz]); refine tkns 10 rfl (by assumption) ?resta10; (try simp only [PPz]); refine tkns 11 rfl (by assumption) ?resta11; (try simp only [PPz]); refine tkns 12 rfl (by assumption) ?resta12; (try simp only [PPz]); refine tkns 13 rfl (by assumption) ?resta13; (try simp only [PPz]); refine tkna 14 ?va14 rfl ?hya14 ?resta14
      case hya14 => (intro w hSw; (try dsimp only at hSw); go_simp <;> with_reducible rfl)
      (try simp only [PPz]); refine tkna 15 ?va15 rfl ?hya15 ?resta15
      case hya15 => (intro w hSw; (try dsimp only at hSw); go_simp <;> with_reducible rfl)
      (try simp only [PPz]); refine wpAnyH_done (by kernel_rfl) ?_ _
      go_wp2
      go_ret
      obtain ⟨k0, _, _⟩ := hHeld; exact ⟨rfl, k0⟩
  · rw [h] at cb
    have CB := Lib.hid cb; have e0 : (((8 : Int)) == 0) = false := rfl; have hpt : Ck.pt len n d = false := decide_eq_false (fun g => hx g.1); rw [hpt]; clear cb h hx hpt
    go_enter Tryz.func147, Tryz.ntmps147
    go_upto_region 1 with fail
    refine at_worldQ (fun v => Below w.heap.size w v ∧ v.cell? ⟨w.heap.size, 0, none⟩ = some (.int .i64 n) ∧ v.cell? ⟨w.heap.size, 1, none⟩ = some (.int .i64 d)) ⟨(Below.refl _ _).alloc (Nat.le_refl _) _, n20 _ _ _ _, n21 _ _ _ _⟩ (fun V hS => ?_); obtain ⟨hbb, p0, p1⟩ := hS; refine wp_region_held_drew (S := (fun v => Below w.heap.size w v ∧ v.cell? ⟨w.heap.size, 0, none⟩ = some (.int .i64 n) ∧ v.cell? ⟨w.heap.size, 1, none⟩ = some (.int .i64 d))) (by kernel_rfl) ?_ (fun hHeld => ?_)
    · exact ⟨hbb.drew, p0, p1⟩
    refine tkna 0 ?vb0 rfl ?hyb0 ?restb0
    case hyb0 => (intro w hSw; (try dsimp only at hSw); go_simp <;> with_reducible rfl)
    (try simp only [PPz]); refine wpAnyH_ready (rs := [1]) (by kernel_rfl) (by simp) ?_; refine AllReadyH.cons (o := _) rfl (fun K hK => ?_) AllReadyH.nil; go_simp; refine (CB.out _).mono ?_; rintro e w3 ⟨rfl, hb3⟩; (go_wp2_with fail); refine hK.out _ _ ?_ (fun hHeld => ?_)
    · obtain ⟨k0, kp0, kp1⟩ := hHeld; exact ⟨keepB k0 hb3, keepC hb3 kp0, keepC hb3 kp1⟩
    clear hK K; (try simp only [PPz]); refine tkna 2 ?vb2 rfl ?hyb2 ?restb2
    case hyb2 => (intro w hSw; (try dsimp only at hSw); go_simp <;> with_reducible rfl)
    (try simp only [PPz]); refine tkna 3 ?vb3 rfl ?hyb3 ?restb3
    case hyb3 => (intro w hSw; (try dsimp only at hSw); go_simp <;> with_reducible rfl)
    (try simp only [PPz]); refine tkns 4 rfl (by assumption) ?restb4; (try simp only [PPz]); refine tkns 5 rfl (by assumption) ?restb5; (try simp only [PPz]); refine tkns 6 rfl (by assumption) ?restb6; (try simp only [PPz]); refine tkna 7 ?vb7 rfl ?hyb7 ?restb7
    case hyb7 => (intro w hSw; (try dsimp only at hSw); go_simp <;> with_reducible rfl)
    (try simp only [PPz]); refine tkna 8 ?vb8 rfl ?hyb8 ?restb8
    case hyb8 => (intro w hSw; (try dsimp only at hSw); go_simp <;> with_reducible rfl)
    (try simp only [PPz]); refine tkns 9 rfl (by assumption) ?restb9; (try simp only [PPz]); refine tkns 10 rfl (by assumption) ?restb10; (try simp only [PPz]); refine tkns 11 rfl (by assumption) ?restb11; (try simp only [PPz]); refine tkns 12 rfl (by assumption) ?restb12; (try simp only [PPz]); refine tkns 13 rfl (by assumption) ?restb13; (try simp only [PPz]); refine tkna 14 ?vb14 rfl ?hyb14 ?restb14
    case hyb14 => (intro w hSw; (try dsimp only at hSw); go_simp <;> with_reducible rfl)
    (try simp only [PPz]); refine tkna 15 ?vb15 rfl ?hyb15 ?restb15
    case hyb15 => (intro w hSw; (try dsimp only at hSw); go_simp <;> with_reducible rfl)
    (try simp only [PPz]); refine wpAnyH_done (by kernel_rfl) ?_ _
    go_wp2
    go_ret
    obtain ⟨k0, _, _⟩ := hHeld; exact ⟨rfl, k0⟩
end Go.Proofs.YtniagnldiegamaaGreat

