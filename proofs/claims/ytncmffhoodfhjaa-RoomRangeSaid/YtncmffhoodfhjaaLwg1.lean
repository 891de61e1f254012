/- RoomRange's check of prices with a room at the end of its range. -/
import Derived.Test.YtncmffhoodfhjaaYm
import Derived.Test.YtncmffhoodfhjaaYp
namespace Go.Proofs.Ytncmffhoodfhjaa
open Go.RowKit
set_option maxRecDepth 100000 in
set_option maxHeartbeats 4000000 in
theorem even14_any (A : Option Addr) (cv : Nat) (V : List (List Int)) (R : Int) (B : Option Addr) (ca : Nat) (a : List Nat) (C : Option Addr) (cp : Nat) (ps : List Int) (D : Int) (w : World) (hL : Ls w A B C V R a ps D) (hcont : As.Cont (As.sc D V) a (As.el ps)) :
    Calls Try.prog 17 #[.agg #[.slice A V.length cv, .int .i64 R], .agg #[.slice B V.length ca, .slice C V.length cp, .int .i64 D]] w fun e w' => e = .returned (.bool true) ∧ Below w.heap.size w w' := by
  have HE := Lib.hid (show ∀ i j, i < V.length → j < V.length → As.gnF V ps D i j ≤ As.gnF V ps D i (a.getD i 0) from fun i j hi hj => by
    have := hcont i j (by rw [As.sc_len]; exact hi) (by rw [As.sc_len]; exact hj)
    rw [As.sc_vl, As.sc_vl] at this
    unfold As.gnF
    rw [Int.mul_comm, Int.mul_comm (As.vl V i (a.getD i 0))]
    exact this)
  have n6 := hL.ok.n6
  have n1 := hL.ok.n1
  have HL := Lib.hid hL
  have la := hL.la
  have lp := hL.le.len
  clear hL hcont
  go_enter Try.func17, Try.ntmps17
  go_upto_region 1 with fail
  refine at_box2 (fun V0 hbb b0 b1 hsz => ?_)
  clear hsz
  have HX := Lib.hid (Bx.of b0 b1)
  have HBB := Lib.hid hbb
  have HLS := Lib.hid (HL.out.keep hbb)
  clear b0 b1 hbb HL
  have HSB := Lib.hid (show ∀ k : Nat, k ≤ 6 → -3600000000 ≤ As.sm (As.el ps) (List.range k) ∧ As.sm (As.el ps) (List.range k) ≤ 3600000000 ∨ V.length < k from fun k hk => by
    by_cases hkn : k ≤ V.length
    · have hd := HLS.out.le.d60
      have := As.sm_bd2 (f := As.el ps) (M := 600000000) k fun j hj => by
        have := HLS.out.le.pb j (by omega)
        omega
      left
      omega
    · right; omega)
  have HSS := Lib.hid (fun k => As.sm_range_succ (As.el ps) k)
  have HRD := Lib.hid (show As.sm (As.el ps) (List.range V.length) = R * D ∧ IntKind.i64.wrap (R * D) = R * D by
    have m1 := Int.mul_le_mul_of_nonneg_right HLS.out.r1 (show 0 ≤ D by have := HLS.out.le.d1; omega)
    have m0 := Int.mul_nonneg HLS.out.r0 (show 0 ≤ D by have := HLS.out.le.d1; omega)
    have hd := HLS.out.le.d60
    exact ⟨by rw [HLS.out.le.sum, Int.mul_comm], IntWalk.i64_in _ (by omega)⟩)
  have HZ := Lib.hid (show As.sm (As.el ps) (List.range 0) = 0 from rfl)
  obtain ⟨xb, xo, rfl, hps⟩ := list_at HLS.out.hC (j := 0) (by omega)
  obtain ⟨bb, bo, rfl, hcs⟩ := list_at HLS.out.hB (j := 0) (by rw [As.al_len, la]; omega)
  have PC := Lib.hid (show ∀ k, k < V.length → V0.cell? ⟨xb, xo + k, none⟩ = some (.int .i64 (As.el ps k)) from fun k hk => hps k (by omega))
  have BC := Lib.hid (show ∀ k, k < V.length → V0.cell? ⟨bb, bo + k, none⟩ = some (.int .i64 ((a.getD k 0 : Nat) : Int)) from fun k hk => by
    have := hcs k (by rw [As.al_len, la]; exact hk)
    rwa [As.el_al] at this)
  clear hps hcs
  generalize As.sm (As.el ps) = sf at *
  go_wp2_with fail
  go_loopw [5, 6] (fun s i W => ∃ j : Nat, j ≤ V.length ∧ i = .int .i64 j ∧ s = .int .i64 (sf (List.range j)) ∧ Hid (Below V0.heap.size V0 W)) (fun _ i _ => V.length - (intOf i).toNat)
  case atStart => exact ⟨0, Nat.zero_le _, rfl, by rw [HZ.out], Lib.hid (Below.refl _ _)⟩
  case round =>
    obtain ⟨j, hj, rfl, rfl, HW⟩ := hrel
    have k1 := keepC HW.out HX.out.q1
    by_cases hlt : j < V.length
    · have x1 := keepC HW.out (PC.out j hlt)
      have hS := HSB.out j (by omega)
      have hss := HSS.out j
      have hS2 := HSB.out (j + 1) (by omega)
      have hS3 : -3600000000 ≤ sf (List.range (j + 1)) ∧ sf (List.range (j + 1)) ≤ 3600000000 := by omega
      have HSN := Lib.hid hss
      generalize sf (List.range j) = s0 at *
      obtain ⟨y, hy⟩ : ∃ y, As.el ps j = y := ⟨_, rfl⟩
      rw [hy] at x1 hss HSN
      rw [hss] at hS3
      have a1 : IntKind.i64.wrap (s0 + y) = s0 + y := IntWalk.i64_in _ (by omega)
      have i1 : (j : Int) < (V.length : Int) := by omega
      clear hS hS2 hS3 hss hy
      go_wp2_with fail
      go_loopw [7] (fun i W => ∃ i0 : Nat, i0 ≤ V.length ∧ i = .int .i64 i0 ∧ Hid (Below V0.heap.size V0 W)) (fun i _ => V.length - (intOf i).toNat)
      case atStart => exact ⟨0, Nat.zero_le _, rfl, HW⟩
      case round =>
        clear x1 k1 HW
        obtain ⟨i, hi, rfl, HW⟩ := hrel
        have k0 := keepC HW.out HX.out.p0
        by_cases hli : i < V.length
        · have HG := Lib.hid (fun v (hv : Below V0.heap.size V0 v) r (hr : r < V.length) => rGain_any A cv V R (some ⟨bb, bo, none⟩) ca a (some ⟨xb, xo, none⟩) cp ps D i r v (HLS.out.keep hv) hli hr)
          have hjm := HLS.out.lt hli
          have x1 := BC.out i hli
          have hle := HE.out i j hli hlt
          generalize As.gnF V ps D i = f at *
          generalize a.getD i 0 = jm at *
          obtain ⟨x, hxe⟩ : ∃ x, f j = x := ⟨_, rfl⟩
          obtain ⟨y2, hye⟩ : ∃ y2, f jm = y2 := ⟨_, rfl⟩
          have HXE := Lib.hid hxe
          have HYE := Lib.hid hye
          rw [hxe, hye] at hle
          have d1 : decide (y2 < x) = false := decide_eq_false (by omega)
          have HWH := HW.out
          have i2 : (i : Int) < (V.length : Int) := by omega
          have HK := Lib.hid (fun v (hv : Below V0.heap.size V0 v) => (show v.cell? ⟨w.heap.size, 0, none⟩ = some (.slice A V.length cv) ∧ v.cell? ⟨w.heap.size, 1, none⟩ = some (.int .i64 R) ∧ v.cell? ⟨w.heap.size + 1, 0, none⟩ = some (.slice (some ⟨bb, bo, none⟩) V.length ca) ∧ v.cell? ⟨w.heap.size + 1, 1, none⟩ = some (.slice (some ⟨xb, xo, none⟩) V.length cp) ∧ v.cell? ⟨w.heap.size + 1, 2, none⟩ = some (.int .i64 D) ∧ v.cell? ⟨bb, bo + i, none⟩ = some (.int .i64 jm) from ⟨keepC hv HX.out.p0, keepC hv HX.out.p1, keepC hv HX.out.q0, keepC hv HX.out.q1, keepC hv HX.out.q2, keepC hv x1⟩))
          clear hxe hye x1 hle
          go_upto_region 9 with fail
          go_cut [43] (fun z v => z = .bool false ∧ Below V0.heap.size V0 v)
          case first =>
            go_region_held3 (fun v => v.cell? ⟨w.heap.size, 0, none⟩ = some (.slice A V.length cv) ∧ v.cell? ⟨w.heap.size, 1, none⟩ = some (.int .i64 R) ∧ v.cell? ⟨w.heap.size + 1, 0, none⟩ = some (.slice (some ⟨bb, bo, none⟩) V.length ca) ∧ v.cell? ⟨w.heap.size + 1, 1, none⟩ = some (.slice (some ⟨xb, xo, none⟩) V.length cp) ∧ v.cell? ⟨w.heap.size + 1, 2, none⟩ = some (.int .i64 D) ∧ v.cell? ⟨bb, bo + i, none⟩ = some (.int .i64 jm))
              (first | (exact HK.out _ (by assumption)) | (exact HK.out _ (Below.drew (by assumption))))
              (first
                | (go_at_call 35; have hb9 := hw3; refine (HG.out _ hb9 _ (by assumption)).mono ?_; rw [HYE.out]; rintro e w4 ⟨rfl, hb4⟩; have hw4 : Below V0.heap.size V0 w4 := keepB hb9 hb4; clear hb9)
                | (go_at_call 35; refine (HG.out _ (by first | assumption | exact Below.drew (by assumption)) _ (by assumption)).mono ?_; rw [HXE.out]; rintro e w3 ⟨rfl, hb3⟩; have hw3 : Below V0.heap.size V0 w3 := (by first | exact keepB HW.out hb3 | exact keepB HW.out.drew hb3)))
            all_goals
              go_wp2_with fail
              go_meet
              exact ⟨rfl, hw4⟩
          case rest =>
            obtain ⟨rfl, hb⟩ := hcut
            go_wp2_with fail
            go_roundw
            case rel => exact ⟨i + 1, by omega, by go_num, Lib.hid hb⟩
            case measure => simp [intOf]; omega
        · obtain rfl : i = V.length := by omega
          go_wp2_with fail
          go_roundw
          case rel => exact ⟨j + 1, by omega, by go_num, by rw [HSN.out], HW⟩
          case measure => simp [intOf]; omega
    · obtain rfl : j = V.length := by omega
      have k2 := keepC HW.out HX.out.q2
      have p1 := keepC HW.out HX.out.p1
      obtain ⟨r1, r2⟩ := HRD.out
      rw [r1]
      have q1 : (R * D == R * D) = true := by simp
      go_wp2_with fail
      go_ret
      exact ⟨rfl, keepB HBB.out HW.out⟩
end Go.Proofs.Ytncmffhoodfhjaa
